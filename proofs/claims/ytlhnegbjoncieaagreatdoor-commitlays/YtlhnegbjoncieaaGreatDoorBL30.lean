/- My own texts, merged. -/
import Derived.Test.YtlhnegbjoncieaaGreatDoorBL29
import Derived.Test.YtlhnegbjoncieaaGreatDoorBL14
import Derived.RangeFuncNested
import Derived.RangeFuncBound
import Derived.RangeFuncCalls
import Derived.RangeFuncLeaves
import Derived.Shelf.Abstract
import Derived.Shelf.RegionOpen
import Derived.WalkKit
import Derived.OwnWalkIn
import Derived.TacticsInMore
import Derived.LoopNIn
import Derived.LoopIn
import Derived.Test.YtlhnegbjoncieaaGreatDoorBL00
set_option maxRecDepth 100000
set_option maxHeartbeats 4000000
namespace Go.Proofs.YtlhnegbjoncieaaGreatDoor
namespace Sha
open Go.RowKit Mem
theorem pst_new {w w4:World} {bb n:Nat} (hr:At w4 bb (u8s (List.replicate (n*256) 0)).toArray 5) (_hw:w.heap.size≤bb) :
 PSt (fun k=>k=bb∨k=w4.heap.size) w4.heap.size (w4.alloc (.cells (pRow bb n (.slice none 0 0) (.slice none 0 0) (.slice none 0 0)) 142)) (stNew n):=by
 have hlt:=hr.lt
 refine ⟨fun _=>False,bb,_,_,_,.inr rfl,fun k hk=>?_,at_new w4 _ _,⟨.inl rfl,by omega,hr.alloc _,by simp [stNew],fun k hk=>by simp [Value.ownBlock] at hk,fun k hk=>by simp [Value.ownBlock] at hk,fun k hk=>by simp [Value.ownBlock] at hk,fun k hk=>hk.elim,
  ⟨[],trivial,ownsRow_nil0 _ _ _ _⟩,⟨[],trivial,ownsRow_nil0 _ _ _ _⟩,ownsRow_nil0 _ _ _ _⟩⟩
 rw [World.size_alloc];rcases hk with rfl | rfl <;> omega
theorem dvnew_good (n:Nat) (w:World) (h1:1≤n) (h2:n≤1024):Calls Tryz.prog 42 #[.int .i64 (n:Int)] w fun e w'=>∃ b F,e=.returned (.tuple #[rq b,.int .i64 0])∧PSt F b w' (stNew n)∧(∀ k,F k→w.heap.size≤k)∧Below w.heap.size w w':=by
 obtain ⟨i8,hi8,hz8,hs8,hb8⟩:=info_parts infoU8
 have g1:¬ (n:Int) < 1:=by omega
 have g2:¬ (1024:Int) < (n:Int):=by omega
 obtain ⟨T,hT⟩:∃ T,T=n*256:=⟨_,rfl⟩
 have hTi:(n:Int)*256=(T:Int):=by omega
 have hT6:T≤262144:=by omega
 have I8:=zh hi8;have Z8:=zh hz8;have S8:=zh hs8;have B8':=zh hb8;have TI:=zh hTi;have HT:=zh hT
 clear hi8 hz8 hs8 hb8 hT hTi
 go_enter Tryz.func42,Tryz.ntmps42
 go_wp2_with (refine wpList_make_full _ zr _ _ 31 zr w.heap.size 5 i8 (.int .u8 0) 1 Tryz.underlying31 I8.out Z8.out S8.out .i64 .i64 ((n:Int)*256) ((n:Int)*256) T zr zr TI.out TI.out (by rw [B8'.out];omega) (by simp [maxLen];omega) (Nat.le_refl _) ?_;intro w4 ho4 hg4;have R4:Hid (At w4 w.heap.size (u8s (List.replicate T 0)).toArray 5):=(by have h:=own_full ho4;rw [made_zeros] at h;exact h);have B4:Hid (Below w.heap.size w w4):=(Below.refl _ _).grown hg4 (Nat.le_refl _) (fun _ h=>by cases h);clear ho4)
 go_ret2
 have h:=pst_new (w:=w) (w4:=w4) (bb:=w.heap.size) (n:=n) (by rw [←HT.out];exact R4.out) (Nat.le_refl _)
 unfold pRow pBl at h
 rw [←HT.out] at h
 exact ⟨w4.heap.size,rfl,_,h,fun k hk=>by have h5:=B4.out.size;rcases hk with rfl | rfl <;> omega,B4.out.alloc B4.out.size _⟩
end Sha
end Go.Proofs.YtlhnegbjoncieaaGreatDoor
namespace Go.Proofs.YtlhnegbjoncieaaGreatDoor
namespace Sha
open Go.RowKit Mem
section
end
theorem pw_at {G D:Foot} {br bb:Nat} {w:World} {s:St6} {a:Option Addr} {n cap:Nat} {vs vt:Value} (m:PM G D br bb w s (.slice a n cap) vs vt) {j:Nat} (hj:j < s.w.length) :
 ∃ b o vh,a=some ⟨b,o,none⟩∧w.cell? ⟨b,o+j*2,none⟩=some (.int .i64 (((s.w.getD j (0,[])).1:Nat):Int))∧w.cell? ⟨b,o+j*2+1,none⟩=some vh∧SlB D w vh (s.w.getD j (0,[])).2:=by
 obtain ⟨ws,h1,h2⟩:=m.hw
 have h3:=ownsRow_slR h2
 have hn:n=s.w.length:=by obtain ⟨_,_,_,e,_⟩:=h3;injection e
 subst hn
 obtain ⟨b,o,ea,_,hc⟩:=slR_at h3 hj
 obtain ⟨p,hp,hp1,hp2⟩:=h1.at (List.getElem?_eq_getElem hj)
 obtain ⟨q1,q2⟩:=putC_at ws j p hp
 have e:s.w.getD j (0,[])=s.w[j]:=by simp [List.getD_eq_getElem?_getD,hj]
 rw [e]
 exact ⟨b,o,p.2,ea,by rw [←hp1,←q1,Nat.mul_comm];exact hc 0 (by decide),by rw [←q2,Nat.mul_comm,Nat.add_assoc];exact hc 1 (by decide),hp2⟩
theorem infoW2:(Tryz.prog.info? 159).map (·.size)=some 2:=by kernel_rfl
theorem infoWs:(Tryz.prog.info? 140).map (·.size)=some 1:=by kernel_rfl
def wRow (q:Nat) (v:Value):Array Value:=#[.int .i64 (q:Int),v]
theorem wRow_one (q:Nat) (a:Option Addr) (n c:Nat):(wRow q (.slice a n c)).all (·.oneCell')=true:=by simp [wRow,Value.oneCell']
theorem pv_nowait {F D:Foot} {br bb N:Nat} {w w2:World} {s:St6} {vw vs vt:Value} (h:PV F D br bb w s vw vs vt) (hN:N=s.n) (hA:At w2 br (pRow bb N (.slice none 0 0) vs vt) 142) (ho:∀ k,k≠br→w2.heap[k]?=w.heap[k]?)
 (hk:∀ B a,Below B a w→B≤br→Below B a w2):PV (grow F w w2) D br bb w2 { s with w:=[] } (.slice none 0 0) vs vt∧Chg F w w2:=
 pv_set (s':={ s with w:=[] }) h hN (Chg.refl _ _) hA ho hk (pm_nowait h.m) fun _ hk _=>.inl hk
end Sha
end Go.Proofs.YtlhnegbjoncieaaGreatDoor
namespace Go.Proofs.YtlhnegbjoncieaaGreatDoor
namespace Sha
open Go.RowKit Mem
structure FInv (F D:Foot) (br bb:Nat) (w:World) (s:St6) (vw vs vt:Value) (b:Lb8) (wr:World):Prop where
 v:PV F D br bb wr { s with b:=b } vw vs vt
 c:Chg F w wr
theorem FInv.below {F D:Foot} {br bb:Nat} {w wr w':World} {s:St6} {vw vs vt:Value} {b:Lb8} (h:FInv F D br bb w s vw vs vt b wr) (hb:Below wr.heap.size wr w'):FInv F D br bb w s vw vs vt b w':=
 ⟨h.v.below hb,h.c.trans (F1:=fun _=>False) (Chg.of_below hb) fun _ h=>h.elim⟩
theorem FInv.set {F D:Foot} {br bb:Nat} {w wr w':World} {s:St6} {vw vs vt:Value} {b b':Lb8} (h:FInv F D br bb w s vw vs vt b wr) (hl:b'.length=s.n*256) (hA:At w' bb (u8s b').toArray 5) (hs:wr.heap.size≤w'.heap.size) (ho:∀ k,k≠bb→w'.heap[k]?=wr.heap[k]?)
 (hk:∀ B a,Below B a wr→B≤bb→Below B a w'):FInv F D br bb w s vw vs vt b' w':=by
 have hb0:=hk 0 wr (Below.refl _ _) (Nat.zero_le _)
 refine ⟨pv_bytes (s:={ s with b:=b }) h.v hl hA hs fun k _ hne=>ho k hne,h.c.trans (F1:=fun k=>k=bb) ⟨hb0.os,hb0.tape,hb0.output,hs,fun k _ hne=>ho k hne⟩ fun k hk=>.inl (hk ▸ h.v.m.fb)⟩
theorem pflush_any {F:Foot} {br:Nat} {s:St6} (w:World) (hr:PSt F br w s) (hok:Ok6 1000 s) :
 Calls Tryz.prog 44 #[rq br] w fun e w'=>e=.returned (.int .i64 (s.w.length:Int))∧StEnd PSt F br w (stFlush s) w':=by
 obtain ⟨D,bb,vw,vs,vt,hv⟩:=hr
 obtain ⟨aw,capw,rfl⟩:=hv.w_hd
 have hmd:=pmade_any br bb s.n (.slice aw s.w.length capw) vs vt w hv.row hok.n2 hok.n1
 have hlen:=fun j h=>flushTo_length hok.wf hok.b j h
 have hwf:=hok.wf
 have hn2:=hok.n2
 have hm1:=hok.w
 have htl:=hok.t
 obtain ⟨N,hN⟩:∃ N,N=s.n:=⟨_,rfl⟩
 obtain ⟨M,hM⟩:∃ M,M=s.w.length:=⟨_,rfl⟩
 have hrow:=hv.row
 rw [←hM] at hv hrow hlen hm1 ⊢
 rw [←hN] at hlen hn2
 have c1:w.cell? ⟨br,1,none⟩=some (.slice aw M capw):=by rw [hrow.cell];rfl
 have i0:Hid (FInv F D br bb w s (.slice aw M capw) vs vt (flushTo s.w s.b 0) w):=⟨hv,Chg.refl _ _⟩
 have MD:=zh hmd;have LEN:=zh hlen;have WF:=zh hwf;have HN:=zh hN;have HM:=zh hM;have HT:=zh htl
 clear hv hrow hlen hwf hN hM hmd hok htl
 go_enter Tryz.func44,Tryz.ntmps44
 go_wp2_with fail
 refine MD.out.mono ?_
 rintro o w' ⟨rfl,rfl⟩
 go_wp2_with fail
 go_loopw [19] (fun i wr=>∃ j:Nat,j≤M∧i=.int .i64 j∧FInv F D br bb w s (.slice aw M capw) vs vt (flushTo s.w s.b j) wr) (fun i _=>M - (intOf i).toNat)
 case atStart=>exact ⟨0,by omega,rfl,i0.out⟩
 case round=>
  clear i0 c1
  obtain ⟨j,hj,rfl,hI⟩:=hrel
  by_cases hlt:j < M
  ·have hlt':(j:Int) < (M:Int):=by omega
   have hbl:=LEN.out j (by omega)
   have hbl2:=LEN.out (j+1) (by omega)
   have hst:flushTo s.w s.b (j+1)=laidB (flushTo s.w s.b j) ((s.w.getD j (0,[])).1*256) (s.w.getD j (0,[])).2:=rfl
   obtain ⟨wf1,wf2⟩:=WF.out j (by rw [←HM.out];exact hlt)
   obtain ⟨b1,o1,vh,e1,cn0,ch0,hsh0⟩:=pw_at hI.v.m (j:=j) (by show j < s.w.length;rw [←HM.out];exact hlt)
   obtain ⟨x,hx⟩:∃ x,x=(s.w.getD j (0,[])).2:=⟨_,rfl⟩
   obtain ⟨q,hq⟩:∃ q,q=(s.w.getD j (0,[])).1:=⟨_,rfl⟩
   have cn:wr.cell? ⟨b1,o1+j*2,none⟩=some (.int .i64 (q:Int)):=by rw [hq];exact cn0
   have hsh:SlB D wr vh x:=by rw [hx];exact hsh0
   clear cn0 hsh0
   rw [←hx] at wf2 hst
   rw [←hq] at wf1 hst
   obtain ⟨a3,cap3,rfl⟩:=hsh.hd
   rw [wf2] at ch0
   have ch:wr.cell? ⟨b1,o1+j*2+1,none⟩=some (.slice a3 256 cap3):=ch0
   clear ch0
   have b3:Below wr.heap.size wr (wr.alloc (.cells (wRow q (.slice a3 256 cap3)) 159)):=(Below.refl _ _).alloc (Nat.le_refl _) _
   have A3:=zh (at_new wr (wRow q (.slice a3 256 cap3)) 159)
   have I3:=zh (hI.below b3)
   have S3:Hid (Sl (wr.alloc (.cells (wRow q (.slice a3 256 cap3)) 159)) (.slice a3 256 cap3) x):=by have h:=hsh.sl.below b3;rw [wf2] at h;exact h
   have NE:Hid (wr.heap.size≠bb):=by have h:=hI.v.m.by8.lt;intro e;omega
   have ST:=zh hst;have BL:=zh hbl;have BL2:=zh hbl2;have XL:=zh wf2
   subst e1
   clear hI hst hsh b3 hbl hbl2 wf2 hx hq
   go_wp2_with (refine wpList_store_new zr 159 _ _ zr zr (wRow q (.slice a3 256 cap3)) _ _ zr zr (by exact infoW2) zr (wRow_one _ _ _ _) ?_;clear cn ch;generalize wr.alloc (.cells (wRow q (.slice a3 256 cap3)) 159)=w3 at *;generalize wr.heap.size=bx at *)
   have hdr:w3.drew.heap=w3.heap:=rfl
   have IR:Hid (At w3.drew br (pRow bb N (.slice (some ⟨b1,o1,none⟩) M capw) vs vt) 142):=by have h:=I3.out.v.row;rw [HN.out];exact h
   have BK:=zh (pblk_any br bb N q (.slice (some ⟨b1,o1,none⟩) M capw) vs vt w3.drew IR.out hn2 (by rw [HN.out];exact wf1))
   have SD:Hid (Sl w3.drew (.slice a3 256 cap3) x):=S3.out.below (Below.refl _ _).drew
   have ID:=zh (I3.out.below (Below.refl _ _).drew)
   clear IR S3 I3 hdr
   refine wp_region_plan_in (fun w'=>At w' bx (wRow q (.slice a3 256 cap3)) 159) (.take 0 (.take 1 (.take 2 (.take 4 (.take 5 (.sole 3 (.sole 6 .done))))))) (by kernel_rfl) (by kernel_rfl) (by kernel_rfl) A3.out.drew ?_
   (first | refine Mem.pm1 ?_ | refine Mem.pm2 ?_ | refine Mem.pt ?_ | refine Mem.pf ?_)
   (simp only [Mem.zp,Mem.pb,Mem.pc])
   refine plan_field 159 _ 0 bx 0 ⟨bx,0,none⟩ zr zr zr ze (fun wx=>by go_simp) ?_
   (simp only [Mem.zp,Mem.pb,Mem.pc])
   refine plan_cell 3 _ _ (.int .i64 (q:Int)) _ zr zr zr ze (fun w' hw'=>(by rw [hw'.cell];rfl)) Tryz.underlying3 zr ?_
   (simp only [Mem.zp,Mem.pb,Mem.pc])
   refine plan_field 159 _ 1 bx 0 ⟨bx,1,none⟩ zr zr zr ze (fun wx=>by go_simp) ?_
   (simp only [Mem.zp,Mem.pb,Mem.pc])
   refine plan_cell 31 _ _ (.slice a3 256 cap3) _ zr zr zr ze (fun w' hw'=>(by rw [hw'.cell];rfl)) Tryz.underlying31 zr ?_
   (simp only [Mem.zp,Mem.pb,Mem.pc])
   refine plan_call 72 _ _ _ (by kernel_rfl) zr zr zr (by first | exact Mem.ev_none _ | (simp only [List.map_toArray,List.map_cons,List.map_nil,Mem.ev_tmp,List.getD_cons_succ,List.getD_cons_zero] <;> rfl)) ?_
   refine BK.out.mono ?_
   rintro o w5 ⟨rfl,rfl⟩
   refine ⟨_,rfl,A3.out.drew,?_⟩
   (simp only [Mem.zp,Mem.pb,Mem.pc])
   refine plan_copy_sl _ _ zr zr zr bb (q*256) 256 (N*256 - q*256) (.slice a3 256 cap3) x (flushTo s.w s.b j) ze ze SD.out (by intro e;have h:=XL.out;rw [e] at h;simp at h) (by rw [XL.out];omega) ID.out.v.m.by8 (by have h:=HN.out;rw [XL.out,BL.out];omega) ?_
   intro w9 ha hs9 ho hk
   have I9:Hid (FInv F D br bb w s (.slice (some ⟨b1,o1,none⟩) M capw) vs vt (flushTo s.w s.b (j+1)) w9):=ID.out.set (by rw [BL2.out,HN.out]) (by rw [ST.out];exact ha) (by omega) ho hk
   refine ⟨(by have h:=A3.out.drew;have hne:=NE.out;unfold At at *;rw [ho bx hne];exact h),?_⟩
   clear ha hs9 ho hk
   (simp only [Mem.zp,Mem.pb,Mem.pc])
   refine plan_nil ?_
   go_wp2_with fail
   go_roundw
   case rel=>exact ⟨j+1,by omega,by go_num,I9.out⟩
   case measure=>simp [intOf];omega
  ·have hge:¬ (j:Int) < (M:Int):=by omega
   have hjm:j=M:=by omega
   subst hjm
   have hrow:At wr br (pRow bb N (.slice aw j capw) vs vt) 142:=by have h:=hI.v.row;rw [HN.out];exact h
   have HR:=zh hrow;have HI:=zh hI
   clear hrow hI hlt LEN WF MD
   go_wp2_with (refine Mem.wpList_store_one zr 140 _ _ zr zr br 1 (.slice none 0 0) zr zr zr infoWs _ 142 HR.out (by simp [pRow]) ?_;intro w8 ha ho hk;have R8:=zh (pv_nowait (N:=N) HI.out.v HN.out (by exact ha) ho hk);clear ha ho hk)
   refine (pnote_any (-1) w8 R8.out.1.ps (by have:=HT.out;show s.t.length≤1001;omega)).mono ?_
   rintro o w9 ⟨rfl,hs9⟩
   have S9:=zh hs9
   clear hs9
   go_wp2_with fail
   go_ret
   have hc:=HI.out.c.trans R8.out.2 fun k hk=>.inl hk
   have h9:=StEnd.trans hc (fun k hk=>(grow_ext k hk).imp id fun h=>Nat.le_trans HI.out.c.size h) S9.out
   rw [HM.out] at h9
   exact ⟨rfl,h9⟩
end Sha
end Go.Proofs.YtlhnegbjoncieaaGreatDoor
namespace Go.Proofs.YtlhnegbjoncieaaGreatDoor
namespace Sha
open Go.RowKit Go.Shelf Mem
attribute [local go_sem] Oper.semAt_some
def wsAt (ws:List (Nat × Value)) (j:Nat):Nat × Value:=ws.getD j (0,.slice none 0 0)
def wArg (ws:List (Nat × Value)) (M c:Nat):Array Value:=#[.agg (wRow (wsAt ws (M - 1 - c)).1 (wsAt ws (M - 1 - c)).2)]
theorem pfrom_any (n:Nat) (hn:1≤n) {br M capw n0:Nat} {aw:Option Addr} {ws:List (Nat × Value)} {w0:World} (hM:M≤1000) (hbr:br < n0) (hc1:w0.cell? ⟨br,1,none⟩=some (.slice aw M capw))
 (hws:∀ j,j < M→∃ b o,aw=some ⟨b,o,none⟩∧b < n0∧w0.cell? ⟨b,o+j*2,none⟩=some (.int .i64 ((wsAt ws j).1:Int))∧w0.cell? ⟨b,o+j*2+1,none⟩=some (wsAt ws j).2) :
 Gives Fence.wide n Tryz.prog 116 #[rq br] M (wArg ws M) n0 w0:=by
 intro l J Jx W hW hY h0
 have hc1:W.cell? ⟨br,1,none⟩=some (.slice aw M capw):=by rw [hW.cell (p:=⟨br,1,none⟩) hbr];exact hc1
 refine callsIn_of_wp Tryz.func116 rfl trivial ?_ rfl
 simp only [Tryz.ntmps116,List.size_toArray,List.length_cons,List.length_nil,Nat.reduceAdd,Nat.reduceSub,Array.replicate_succ,Array.replicate_zero,List.push_toArray,List.append_toArray,List.nil_append,List.cons_append]
 have HY:=zh hY;have HWS:=zh hws;have HW:=zh hW
 have J0:Hid (J (M - M) W):=by rw [Nat.sub_self];exact h0
 clear hY hws hW h0
 gi_wp2
 gi_loopw [4] (fun i wr=>∃ k:Nat,k≤M∧i=.int .i64 ((k:Int) - 1)∧J (M - k) wr∧Below n0 W wr) (fun i _=>(intOf i+1).toNat)
 case atStart=>exact ⟨M,Nat.le_refl _,rfl,J0.out,Below.refl _ _⟩
 case round=>
  obtain ⟨k,hk,rfl,hJ,hB⟩:=hrel
  cases k with
  | zero=>
   have HJ:=zh hJ
   clear hJ hB J0
   gi_wp2
   go_end0
   exact ⟨⟨_,rfl⟩,.inl HJ.out⟩
  | succ k=>
   have hi:((k+1:Nat):Int) - 1=(k:Int):=by omega
   rw [hi]
   have hkM:(k:Int) < (M:Int):=by omega
   have hpos:(0:Int)≤(k:Int):=by omega
   obtain ⟨b,o,e1,hb,cn,ch⟩:=HWS.out k (by omega)
   subst e1
   have e1:M - 1 - (M - (k+1))=k:=by omega
   obtain ⟨fn,tmps,assign,body,hy,hR⟩:=HY.out (M - (k+1)) wr (by omega) hJ
   unfold wArg wRow at hy
   rw [e1] at hy
   have cbr:wr.cell? ⟨br,1,none⟩=some (.slice (some ⟨b,o,none⟩) M capw):=by rw [hB.cell (p:=⟨br,1,none⟩) hbr];exact hc1
   have cn:wr.cell? ⟨b,o+k*2,none⟩=some (.int .i64 ((wsAt ws k).1:Int)):=by rw [(HW.out.trans hB).cell (p:=⟨b,o+k*2,none⟩) hb];exact cn
   have ch:wr.cell? ⟨b,o+k*2+1,none⟩=some (wsAt ws k).2:=by rw [(HW.out.trans hB).cell (p:=⟨b,o+k*2+1,none⟩) hb];exact ch
   have e2:M - (k+1)+1=M - k:=by omega
   rw [e2] at hR
   have HR:=zh hR;have HB:=zh hB
   clear hR hB J0 hi hJ
   generalize wsAt ws k=p at *
   obtain ⟨q,vh⟩:=p
   gi_wp2
   refine HR.out.mono ?_
   rintro e W3 (⟨rfl,hJ3,hk3⟩ | ⟨rfl,hJx3⟩)
   ·have J3:=zh hJ3;have K3:=zh hk3
    clear hJ3 hk3
    gi_wp2
    go_roundw
    case rel=>exact ⟨k,by omega,rfl,J3.out,HB.out.trans K3.out⟩
    case measure=>simp [intOf]
   ·have J3:=zh hJx3
    clear hJx3
    gi_wp2
    refine bodyPost_ret (results_none rfl _ _ _) rfl ?_
    exact ⟨⟨_,rfl⟩,.inr ⟨M - (k+1),by omega,J3.out⟩⟩
theorem pw_ws {G D:Foot} {br bb:Nat} {w:World} {s:St6} {a:Option Addr} {n cap:Nat} {vs vt:Value} (m:PM G D br bb w s (.slice a n cap) vs vt) :
 ∃ ws:List (Nat × Value),∀ j,j < s.w.length→(∃ b o,a=some ⟨b,o,none⟩∧b < w.heap.size∧w.cell? ⟨b,o+j*2,none⟩=some (.int .i64 ((wsAt ws j).1:Int))∧w.cell? ⟨b,o+j*2+1,none⟩=some (wsAt ws j).2)∧(wsAt ws j).1=(s.w.getD j (0,[])).1∧SlB D w (wsAt ws j).2 (s.w.getD j (0,[])).2:=by
 obtain ⟨ws,h1,h2⟩:=m.hw
 refine ⟨ws,fun j hj=>?_⟩
 have h3:=ownsRow_slR h2
 have hn:n=s.w.length:=by obtain ⟨_,_,_,e,_⟩:=h3;injection e
 subst hn
 obtain ⟨b,o,ea,_,hc⟩:=slR_at h3 hj
 obtain ⟨p,hp,hp1,hp2⟩:=h1.at (List.getElem?_eq_getElem hj)
 obtain ⟨q1,q2⟩:=putC_at ws j p hp
 have e:s.w.getD j (0,[])=s.w[j]:=by simp [List.getD_eq_getElem?_getD,hj]
 have e2:wsAt ws j=p:=by unfold wsAt;rw [List.getD_eq_getElem?_getD,hp];rfl
 have k1:w.cell? ⟨b,o+j*2,none⟩=some (.int .i64 (p.1:Int)):=by rw [←q1,Nat.mul_comm];exact hc 0 (by decide)
 rw [e,e2]
 exact ⟨⟨b,o,ea,block_lt_of_cell k1,k1,by rw [←q2,Nat.mul_comm,Nat.add_assoc];exact hc 1 (by decide)⟩,hp1,hp2⟩
def lastOf (l:List (Nat × Lb8)) (c:Nat):Nat × Lb8:=l.getD (l.length - 1 - c) (0,[])
theorem readTo_none (n:Nat) (d:Lb8) (l:List (Nat × Lb8)) (h:∀ c,c < l.length→(lastOf l c).1≠n):∀ k,k≤l.length→readTo n d l k=d
 | 0,_=>rfl
 | k+1,hk=>by
  have h1:=h (l.length - 1 - k) (by omega)
  unfold lastOf at h1
  rw [show l.length - 1 - (l.length - 1 - k)=k by omega] at h1
  rw [readTo,if_neg h1,readTo_none n d l h k (by omega)]
theorem readTo_some (n:Nat) (d:Lb8) (l:List (Nat × Lb8)) (c:Nat) (hc:c < l.length) (he:(lastOf l c).1=n) (h:∀ c',c' < c→(lastOf l c').1≠n):∀ j,j≤c→readTo n d l (l.length - j)=readTo n d l l.length∨False→readTo n d l l.length=(lastOf l c).2:=by
 have h2:∀ j,j≤c→readTo n d l l.length=readTo n d l (l.length - j):=by
  intro j
  induction j with
  | zero=>intro _;rfl
  | succ j ih=>
   intro hj
   rw [ih (by omega)]
   have h3:=h j (by omega)
   unfold lastOf at h3
   rw [show l.length - j=(l.length - 1 - j)+1 by omega,readTo,if_neg h3,show l.length - 1 - j=l.length - (j+1) by omega]
 intro j _ _
 rw [h2 c (Nat.le_refl _),show l.length - c=(l.length - 1 - c)+1 by omega,readTo]
 unfold lastOf at he ⊢
 rw [if_pos he]
theorem readTo_last (n:Nat) (d:Lb8) (l:List (Nat × Lb8)) (c:Nat) (hc:c < l.length) (he:(lastOf l c).1=n) (h:∀ c',c' < c→(lastOf l c').1≠n):readTo n d l l.length=(lastOf l c).2:=
 readTo_some n d l c hc he h 0 (Nat.zero_le _) (.inl rfl)
structure RdI6 (w:World) (n:Nat) (l:List (Nat × Lb8)) (c:Nat) (W:World):Prop where
 an:At W w.heap.size #[.int .i64 (n:Int)] 3
 av:At W (w.heap.size+1) #[.slice none 0 0] 31
 ae:At W (w.heap.size+1+1) #[.int .i64 0] 42
 b:Below w.heap.size w W
 no:∀ c',c' < c→(lastOf l c').1≠n
structure RdX6 (w:World) (d n:Nat) (l:List (Nat × Lb8)) (c:Nat) (W:World):Prop where
 v:∃ v,At W (w.heap.size+1) #[v] 31∧SlB (fun k=>w.heap.size≤k∧k≠d∧k≠d+1) W v (lastOf l c).2
 ae:At W (w.heap.size+1+1) #[.int .i64 0] 42
 b:Below w.heap.size w W
 yes:(lastOf l c).1=n
 no:∀ c',c' < c→(lastOf l c').1≠n
theorem at_two {d b:Nat} {X Y:World} {C:Array Value} {t:TypeId} (h:At X b C t) (k:Two d X Y) (h1:b≠d) (h2:b≠d+1):At Y b C t:=by
 have hl:=h.lt
 unfold At at *
 rw [k.same b hl h1 h2];exact h
theorem RdI6.two {w:World} {n c d:Nat} {l:List (Nat × Lb8)} {X Y:World} (h:RdI6 w n l c X) (k:Two d X Y) (hd:w.heap.size+3≤d):RdI6 w n l c Y:=
 ⟨at_two h.an k (by omega) (by omega),at_two h.av k (by omega) (by omega),at_two h.ae k (by omega) (by omega),h.b.trans (k.below (by omega) h.b.size),h.no⟩
theorem RdX6.two {w:World} {n c d:Nat} {l:List (Nat × Lb8)} {X Y:World} (h:RdX6 w d n l c X) (k:Two d X Y) (hd:w.heap.size+3≤d):RdX6 w d n l c Y:=by
 obtain ⟨v,h1,h2⟩:=h.v
 exact ⟨⟨v,at_two h1 k (by omega) (by omega),h2.keep k.size fun j hj hlt=>k.same j hlt hj.2.1 hj.2.2⟩,at_two h.ae k (by omega) (by omega),h.b.trans (k.below (by omega) h.b.size),h.yes,h.no⟩
theorem blkOf_length {b:Lb8} {n q:Nat} (hb:b.length=n*256) (hq:q < n):(blkOf b q).length=256:=by
 unfold blkOf
 rw [List.length_take,List.length_drop]
 omega
theorem sl_blk {w:World} {bb n q:Nat} {b:Lb8} (h:At w bb (u8s b).toArray 5) (hb:b.length=n*256) (hq:q < n):Sl w (.slice (some ⟨bb,q*256,none⟩) 256 (n*256 - q*256)) (blkOf b q):=by
 have hl:=blkOf_length hb hq
 refine ⟨_,_,by rw [hl],by omega,fun _=>⟨bb,q*256,rfl,h.lt,fun i hi=>?_⟩⟩
 rw [hl] at hi
 rw [h.cell,List.getElem?_toArray,u8s_get b _ (by omega)]
 unfold blkOf
 simp [List.getD_eq_getElem?_getD,hi]
theorem pread_any {F:Foot} {br:Nat} {s:St6} (n:Nat) (w:World) (hr:PSt F br w s) (hok:Ok6 1000 s) (hn:n < s.n) :
 Calls Tryz.prog 93 #[rq br,.int .i64 (n:Int)] w fun e w'=>∃ v,e=.returned (.tuple #[v,.int .i64 0])∧SlB (fun k=>w.heap.size≤k) w' v (stRead s n)∧Below w.heap.size w w':=by
 obtain ⟨D,bb,vw,vs,vt,hv⟩:=hr
 obtain ⟨aw,capw,rfl⟩:=hv.w_hd
 have hb3:Below w.heap.size w (((w.alloc (.cells #[.int .i64 (n:Int)] 3)).alloc (.cells #[.slice none 0 0] 31)).alloc (.cells #[.int .i64 0] 42)):=(((Below.refl _ w).alloc (Nat.le_refl _) _).alloc (by simp) _).alloc (by simp;omega) _
 have hi0:RdI6 w n s.w 0 (((w.alloc (.cells #[.int .i64 (n:Int)] 3)).alloc (.cells #[.slice none 0 0] 31)).alloc (.cells #[.int .i64 0] 42)):=by
  refine ⟨((at_new w _ _).alloc _).alloc _,?_,?_,hb3,fun _ h=>absurd h (by omega)⟩
  ·have h:=(at_new (w.alloc (.cells #[.int .i64 (n:Int)] 3)) #[.slice none 0 0] 31).alloc (.cells #[.int .i64 0] 42)
   simpa using h
  ·have h:=at_new ((w.alloc (.cells #[.int .i64 (n:Int)] 3)).alloc (.cells #[.slice none 0 0] 31)) #[.int .i64 0] 42
   simpa using h
 have hv3:=hv.below hb3
 have hck:=pcheck_good br bb s.n n (.slice aw s.w.length capw) vs vt _ hv3.row hok.n2 hn
 have hsz:(((w.alloc (.cells #[.int .i64 (n:Int)] 3)).alloc (.cells #[.slice none 0 0] 31)).alloc (.cells #[.int .i64 0] 42)).heap.size=w.heap.size+3:=by simp
 have CK:=zh hck;have I0:=zh hi0;have B3:=zh hb3;have V3:=zh hv3;have HV:=zh hv;have SZ:=zh hsz
 clear hck hi0 hb3 hv3 hsz
 refine (callsIn_wide (n:=6)).1 ?_
 refine callsIn_of_wp_marks Tryz.func93 rfl trivial ?_ rfl
 simp only [Tryz.ntmps93,List.size_toArray,List.length_cons,List.length_nil,Nat.reduceAdd,Nat.reduceSub,Array.replicate_succ,Array.replicate_zero,List.push_toArray,List.append_toArray,List.nil_append,List.cons_append]
 gi_wp2
 refine ⟨trivial,(callsIn_wide.2 CK.out).mono ?_⟩
 rintro e w' ⟨rfl,rfl⟩
 obtain ⟨w3,hw3⟩:∃ w3,w3=((w.alloc (.cells #[.int .i64 (n:Int)] 3)).alloc (.cells #[.slice none 0 0] 31)).alloc (.cells #[.int .i64 0] 42):=⟨_,rfl⟩
 rw [←hw3] at I0 B3 V3 SZ ⊢
 clear hw3 CK
 gi_wp2
 obtain ⟨M,hM⟩:∃ M,M=s.w.length:=⟨_,rfl⟩
 obtain ⟨ws,hws⟩:=pw_ws HV.out.m
 have hM1:M≤1000:=by rw [hM];exact hok.w
 have hbr:=HV.out.blt
 have hc1:w3.cell? ⟨br,1,none⟩=some (.slice aw M capw):=by rw [V3.out.row.cell,hM];rfl
 rw [←hM] at hws
 have hwsx:∀ j,j < M→∃ b o,aw=some ⟨b,o,none⟩∧b < w.heap.size∧w3.cell? ⟨b,o+j*2,none⟩=some (.int .i64 ((wsAt ws j).1:Int))∧w3.cell? ⟨b,o+j*2+1,none⟩=some (wsAt ws j).2:=fun j hj=>by
  obtain ⟨⟨b,o,e,hb,h1,h2⟩,_⟩:=hws j hj
  exact ⟨b,o,e,hb,by rw [B3.out.cell (p:=⟨b,o+j*2,none⟩) hb];exact h1,by rw [B3.out.cell (p:=⟨b,o+j*2+1,none⟩) hb];exact h2⟩
 have sz:=SZ.out
 have hlast:∀ c,c < M→(wsAt ws (M - 1 - c)).1=(lastOf s.w c).1∧SlB D w (wsAt ws (M - 1 - c)).2 (lastOf s.w c).2∧(lastOf s.w c).2.length=256:=fun c hc=>by
  obtain ⟨_,h1,h2⟩:=hws (M - 1 - c) (by omega)
  have h3:=(hok.wf (M - 1 - c) (by omega)).2
  unfold lastOf
  rw [←hM]
  exact ⟨h1,h2,h3⟩
 have HL:=zh hlast
 have HM:=zh hM
 have hg:=pfrom_any 5 (by omega) (br:=br) (M:=M) (capw:=capw) (n0:=w.heap.size) (aw:=aw) (ws:=ws) (w0:=w3) hM1 hbr hc1 hwsx
 clear hws hwsx hlast hM hc1
 refine wpIn_range_bound rfl (by omega) (gf:=116) (bd:=#[rq br]) rfl trivial (enters_of Tryz.func116 (by kernel_rfl) rfl) hg (Below.refl _ _) (by omega) (fun _=>rfl)
  (RdI6 w n s.w) (RdX6 w w3.heap.size n s.w)
  (fun c a' W=>∃ Bx,w3.heap.size+2≤Bx∧At W Bx (wRow (wsAt ws (M - 1 - c)).1 (wsAt ws (M - 1 - c)).2) 159∧a'={ tmps:=#[rq br,.int .i64 n,undef,.pointer (some ⟨w.heap.size,0,none⟩),.pointer (some ⟨w.heap.size+1,0,none⟩),.pointer (some ⟨w.heap.size+1+1,0,none⟩),.int .i64 0,.pointer (some ⟨Bx,0,none⟩),rq br,.int .i64 n,.int .i64 0,.int .i64 0,.bool false,undef,rq br,.func (.func 116) #[rq br] #[],.agg (wRow (wsAt ws (M - 1 - c)).1 (wsAt ws (M - 1 - c)).2),undef,undef,undef,undef,undef,undef,undef,undef,undef,undef,undef],defers:=[] })
  (fun c X Y h k=>h.two k (by omega)) (fun c X Y h k=>h.two k (by omega))
  (fun c a' X Y h k=>by obtain ⟨Bx,h1,h2,h3⟩:=h;exact ⟨Bx,h1,at_two h2 k (by omega) (by omega),h3⟩) I0.out ?assign ?body ?done ?stop
 case assign=>
  intro l c W K hc hsz hi hK
  have h2:=(HL.out c hc).2.1
  clear sz
  have hK2:=zh hK
  have HI:=zh hi
  clear hK hi hg
  unfold wArg
  generalize wsAt ws (M - 1 - c)=p at *
  obtain ⟨q,vh⟩:=p
  obtain ⟨ax,cx,rfl⟩:=h2.hd
  have h2:=zh h2
  unfold wRow at *
  gi_wp2
  refine hK2.out _ _ ⟨(Below.refl _ W).alloc HI.out.b.size _,fun k _ h=>by first | exact heap_alloc_old _ _ h | exact heap_alloc_old _ _ _ h⟩ ⟨HI.out.an.alloc _,HI.out.av.alloc _,HI.out.ae.alloc _,HI.out.b.alloc HI.out.b.size _,HI.out.no⟩ ⟨W.heap.size,hsz,at_new W _ _,rfl⟩
 case body=>
  rintro l c a' W hc hsz hi ⟨Bx,hBx,hX,rfl⟩
  clear sz
  obtain ⟨h1,h2,h3⟩:=HL.out c hc
  have hp:=h2.keep (w':=W) hi.b.size fun k hk hlt=>hi.b.block k hlt
  have HI:=zh hi
  have hcn:W.cell? ⟨w.heap.size,0,none⟩=some (.int .i64 (n:Int)):=by rw [hi.an.cell];rfl
  clear hg h2 hi
  generalize wsAt ws (M - 1 - c)=p at *
  obtain ⟨q,vh⟩:=p
  obtain ⟨ax,cx,rfl⟩:=hp.hd
  have hx0:W.cell? ⟨Bx,0,none⟩=some (.int .i64 (q:Int)):=by rw [hX.cell];rfl
  have hx1:W.cell? ⟨Bx,1,none⟩=some (.slice ax (lastOf s.w c).2.length cx):=by rw [hX.cell];rfl
  have hcl:=pclone_any (lastOf s.w c).2 _ W (by omega) hp.sl
  have CL:=zh hcl
  clear hp hX hcl
  dsimp only at h1
  have H1:=zh h1;have H3:=zh h3
  clear h1 h3
  by_cases hqn:q=n
  ·subst hqn
   gi_wp2
   refine ⟨trivial,(CallsIn.inRound l (callsIn_wide.2 CL.out)).mono ?_⟩
   rintro e w4 ⟨v4,rfl,ho4,hb4⟩
   obtain ⟨a4,c4,rfl⟩:=own_hd ho4 rfl
   have av4:=HI.out.av.below hb4 HI.out.av.lt
   have ae4:=HI.out.ae.below hb4 HI.out.ae.lt
   have hv4:w4.cell? ⟨w.heap.size+1,0,none⟩=some (.slice none 0 0):=by rw [av4.cell];rfl
   have he4:w4.cell? ⟨w.heap.size+1+1,0,none⟩=some (.int .i64 0):=by rw [ae4.cell];rfl
   have fv4:=av4.free 0
   have fe4:=ae4.free 0
   have O4:=zh ho4;have B4:=zh hb4;have AV:=zh av4;have AE:=zh ae4
   clear ho4 hb4 av4 ae4 hx0 hx1 hcn CL
   gi_wp2
   have s4:=O4.out.slB
   have sz:=SZ.out
   have hso:∀ k,k≠w.heap.size+1→k≠w.heap.size+1+1→((w4.setCell ⟨w.heap.size+1,0,none⟩ (.slice a4 (lastOf s.w c).2.length c4)).setCell ⟨w.heap.size+1+1,0,none⟩ (.int .i64 0)).heap[k]?=w4.heap[k]?:=fun k h1 h2=>
    (heap_setCell_other _ ⟨w.heap.size+1+1,0,none⟩ k _ h2).trans (heap_setCell_other _ ⟨w.heap.size+1,0,none⟩ k _ h1)
   have hss:((w4.setCell ⟨w.heap.size+1,0,none⟩ (.slice a4 (lastOf s.w c).2.length c4)).setCell ⟨w.heap.size+1+1,0,none⟩ (.int .i64 0)).heap.size=w4.heap.size:=by simp
   have hlow:Below w.heap.size W ((w4.setCell ⟨w.heap.size+1,0,none⟩ (.slice a4 (lastOf s.w c).2.length c4)).setCell ⟨w.heap.size+1+1,0,none⟩ (.int .i64 0)):=
    ((B4.out.mono HI.out.b.size).setCell (p:=⟨w.heap.size+1,0,none⟩) (by simp) _).setCell (p:=⟨w.heap.size+1+1,0,none⟩) (by simp;omega) _
   refine ⟨⟨hlow,fun k h1 h2=>(hso k (by omega) (by omega)).trans (B4.out.block k h2)⟩,⟨.slice a4 (lastOf s.w c).2.length c4,?_,?_⟩,?_,HI.out.b.trans hlow,H1.out.symm,HI.out.no⟩
   ·exact (AV.out.set 0 _).set_other _ _ (by simp)
   ·exact (s4.keep (by rw [hss];exact Nat.le_refl _) fun k hk hlt=>hso k (by have:=hsz;omega) (by have:=hsz;omega)).mono fun k hk _=>⟨by omega,by omega,by omega⟩
   ·exact (AE.out.set_other _ _ (by simp)).set 0 _
  ·have hqi:¬ (q:Int)=(n:Int):=by omega
   have HQ:=zh hqn
   clear hqn
   gi_wp2
   exact ⟨⟨Below.refl _ _,fun _ _ _=>rfl⟩,HI.out.an,HI.out.av,HI.out.ae,HI.out.b,fun c' hc'=>by
    by_cases h:c' < c
    ·exact HI.out.no c' h
    ·rw [show c'=c by omega,←H1.out];exact HQ.out⟩
 case done=>
  rintro W hi hk
  have hvw:=HV.out.below hi.b
  have hbk:=pblk_any br bb s.n n _ vs vt W hvw.row hok.n2 hn
  have hcl:=pclone_any (blkOf s.b n) (.slice (some ⟨bb,n*256,none⟩) 256 (s.n*256 - n*256)) W (by rw [blkOf_length hok.b hn];omega) (sl_blk hvw.m.by8 hok.b hn)
  have hcn:W.cell? ⟨w.heap.size,0,none⟩=some (.int .i64 (n:Int)):=by rw [hi.an.cell];rfl
  have hln:=blkOf_length hok.b hn
  have BK:=zh hbk;have CL:=zh hcl;have HI:=zh hi;have HK:=zh hk;have LN:=zh hln
  clear hvw hbk hcl hi hk hg sz hln
  gi_wp2
  refine ⟨trivial,(callsIn_wide.2 BK.out).mono ?_⟩
  rintro e w' ⟨rfl,rfl⟩
  gi_wp2
  refine ⟨trivial,(callsIn_wide.2 CL.out).mono ?_⟩
  rintro e w4 ⟨v4,rfl,ho4,hb4⟩
  obtain ⟨a4,c4,rfl⟩:=own_hd ho4 LN.out.symm
  have av4:=HI.out.av.below hb4 HI.out.av.lt
  have ae4:=HI.out.ae.below hb4 HI.out.ae.lt
  have hv4:w4.cell? ⟨w.heap.size+1,0,none⟩=some (.slice none 0 0):=by rw [av4.cell];rfl
  have he4:w4.cell? ⟨w.heap.size+1+1,0,none⟩=some (.int .i64 0):=by rw [ae4.cell];rfl
  have fv4:=av4.free 0
  have fe4:=ae4.free 0
  have O4:=zh ho4;have B4:=zh hb4;have AV:=zh av4;have AE:=zh ae4
  clear ho4 hb4 av4 ae4 hcn CL BK
  gi_wp2
  have s4:=O4.out.slB
  have sz:=SZ.out
  have hso:∀ k,k≠w.heap.size+1→k≠w.heap.size+1+1→((w4.setCell ⟨w.heap.size+1,0,none⟩ (.slice a4 256 c4)).setCell ⟨w.heap.size+1+1,0,none⟩ (.int .i64 0)).heap[k]?=w4.heap[k]?:=fun k h1 h2=>
   (heap_setCell_other _ ⟨w.heap.size+1+1,0,none⟩ k _ h2).trans (heap_setCell_other _ ⟨w.heap.size+1,0,none⟩ k _ h1)
  have hss:((w4.setCell ⟨w.heap.size+1,0,none⟩ (.slice a4 256 c4)).setCell ⟨w.heap.size+1+1,0,none⟩ (.int .i64 0)).heap.size=w4.heap.size:=by simp
  have hlow:Below w.heap.size w ((w4.setCell ⟨w.heap.size+1,0,none⟩ (.slice a4 256 c4)).setCell ⟨w.heap.size+1+1,0,none⟩ (.int .i64 0)):=
   ((HI.out.b.trans (B4.out.mono HI.out.b.size)).setCell (p:=⟨w.heap.size+1,0,none⟩) (by simp) _).setCell (p:=⟨w.heap.size+1+1,0,none⟩) (by simp;omega) _
  have hKs:=(Array.getElem?_eq_some_iff.1 HK.out).1
  have hK4:((w4.setCell ⟨w.heap.size+1,0,none⟩ (.slice a4 256 c4)).setCell ⟨w.heap.size+1+1,0,none⟩ (.int .i64 0)).heap[w3.heap.size]?=some (.deferred (some [])):=
   (hso _ (by omega) (by omega)).trans ((B4.out.block _ hKs).trans HK.out)
  have av5:At ((w4.setCell ⟨w.heap.size+1,0,none⟩ (.slice a4 256 c4)).setCell ⟨w.heap.size+1+1,0,none⟩ (.int .i64 0)) (w.heap.size+1) #[.slice a4 256 c4] 31:=(AV.out.set 0 _).set_other _ _ (by simp)
  have ae5:At ((w4.setCell ⟨w.heap.size+1,0,none⟩ (.slice a4 256 c4)).setCell ⟨w.heap.size+1+1,0,none⟩ (.int .i64 0)) (w.heap.size+1+1) #[.int .i64 0] 42:=(AE.out.set_other _ _ (by simp)).set 0 _
  have t6:=Two.put (o':=.deferred none) (.inl rfl) hK4
  refine ⟨by simp,.inl ⟨_,_,rfl,run_takeDeferred hK4,?_⟩⟩
  have c6:(((w4.setCell ⟨w.heap.size+1,0,none⟩ (.slice a4 256 c4)).setCell ⟨w.heap.size+1+1,0,none⟩ (.int .i64 0)).putObj w3.heap.size (.deferred none)).cell? ⟨w.heap.size+1,0,none⟩=some (.slice a4 256 c4):=by rw [(at_two av5 t6 (by omega) (by omega)).cell];rfl
  have c7:(((w4.setCell ⟨w.heap.size+1,0,none⟩ (.slice a4 256 c4)).setCell ⟨w.heap.size+1+1,0,none⟩ (.int .i64 0)).putObj w3.heap.size (.deferred none)).cell? ⟨w.heap.size+1+1,0,none⟩=some (.int .i64 0):=by rw [(at_two ae5 t6 (by omega) (by omega)).cell];rfl
  have hrd:stRead s n=blkOf s.b n:=by
   unfold stRead
   exact readTo_none n _ s.w (fun c hc=>HI.out.no c (by rw [HM.out];exact hc)) _ (Nat.le_refl _)
  have s5:=(s4.keep (by rw [hss];exact Nat.le_refl _) fun k hk hlt=>hso k (by omega) (by omega))
  have s6:=(s5.keep t6.size fun k hk hlt=>World.putObj_heap_other (by omega))
  refine ⟨.tuple #[.slice a4 256 c4,.int .i64 0],?_,_,rfl,?_,hlow.trans (t6.below (by omega) hlow.size)⟩
  ·simp [results,Tryz.f93,go_sem,c6,c7]
  ·rw [hrd]
   exact s6.mono fun k hk _=>by have:=HI.out.b.size;omega
 case stop=>
  rintro c W hc hx hk
  have HX:=zh hx;have HK:=zh hk
  clear hx hk hg sz
  gi_wp2
  have sz:=SZ.out
  have t6:=Two.put (o':=.deferred none) (.inl rfl) HK.out
  have x6:=HX.out.two t6 (by omega)
  obtain ⟨v,av6,s6⟩:=x6.v
  refine ⟨by simp,.inl ⟨_,_,rfl,run_takeDeferred HK.out,?_⟩⟩
  have c6:(W.putObj w3.heap.size (.deferred none)).cell? ⟨w.heap.size+1,0,none⟩=some v:=by rw [av6.cell];rfl
  have c7:(W.putObj w3.heap.size (.deferred none)).cell? ⟨w.heap.size+1+1,0,none⟩=some (.int .i64 0):=by rw [x6.ae.cell];rfl
  have hrd:stRead s n=(lastOf s.w c).2:=by
   unfold stRead
   exact readTo_last n _ s.w c (by rw [←HM.out];exact hc) x6.yes x6.no
  refine ⟨.tuple #[v,.int .i64 0],?_,_,rfl,?_,x6.b⟩
  ·simp [results,Tryz.f93,go_sem,c6,c7]
  ·rw [hrd]
   exact s6.mono fun k hk _=>hk.1
theorem pread_bad {F:Foot} {br:Nat} {s:St6} (n:Int) (w:World) (hr:PSt F br w s) (hok:Ok6 1000 s) (hbad:n < 0∨(s.n:Int)≤n) :
 Calls Tryz.prog 93 #[rq br,.int .i64 n] w fun e w'=>∃ v,e=.returned (.tuple #[v,.int .i64 1])∧Sl w' v []∧Below w.heap.size w w':=by
 obtain ⟨D,bb,vw,vs,vt,hv⟩:=hr
 have hb3:Below w.heap.size w (((w.alloc (.cells #[.int .i64 n] 3)).alloc (.cells #[.slice none 0 0] 31)).alloc (.cells #[.int .i64 0] 42)):=(((Below.refl _ w).alloc (Nat.le_refl _) _).alloc (by simp) _).alloc (by simp;omega) _
 have hck:=pcheck_bad br bb s.n n vw vs vt _ (hv.below hb3).row hok.n2 hok.n1 hbad
 have CK:=zh hck;have B3:=zh hb3
 clear hck hb3 hok hv hbad
 refine (callsIn_wide (n:=6)).1 ?_
 refine callsIn_of_wp_marks Tryz.func93 rfl trivial ?_ rfl
 simp only [Tryz.ntmps93,List.size_toArray,List.length_cons,List.length_nil,Nat.reduceAdd,Nat.reduceSub,Array.replicate_succ,Array.replicate_zero,List.push_toArray,List.append_toArray,List.nil_append,List.cons_append]
 gi_wp2
 refine ⟨trivial,(callsIn_wide.2 CK.out).mono ?_⟩
 rintro e w' ⟨rfl,rfl⟩
 gi_wp2
 have av:=(at_new (w.alloc (.cells #[.int .i64 n] 3)) #[.slice none 0 0] 31).alloc (.cells #[.int .i64 1] 42)
 have ae:=at_new ((w.alloc (.cells #[.int .i64 n] 3)).alloc (.cells #[.slice none 0 0] 31)) #[.int .i64 1] 42
 simp only [World.size_alloc] at av ae
 have c6:(((w.alloc (.cells #[.int .i64 n] 3)).alloc (.cells #[.slice none 0 0] 31)).alloc (.cells #[.int .i64 1] 42)).cell? ⟨w.heap.size+1,0,none⟩=some (.slice none 0 0):=by rw [av.cell];rfl
 have c7:(((w.alloc (.cells #[.int .i64 n] 3)).alloc (.cells #[.slice none 0 0] 31)).alloc (.cells #[.int .i64 1] 42)).cell? ⟨w.heap.size+1+1,0,none⟩=some (.int .i64 1):=by rw [ae.cell];rfl
 have hb:Below w.heap.size w (((w.alloc (.cells #[.int .i64 n] 3)).alloc (.cells #[.slice none 0 0] 31)).alloc (.cells #[.int .i64 1] 42)):=(((Below.refl _ w).alloc (Nat.le_refl _) _).alloc (by simp) _).alloc (by simp;omega) _
 refine ⟨.tuple #[.slice none 0 0,.int .i64 1],?_,_,rfl,sl_none _,hb⟩
 simp [results,Tryz.f93,go_sem,c6,c7]
end Sha
end Go.Proofs.YtlhnegbjoncieaaGreatDoor
namespace Go.Proofs.YtlhnegbjoncieaaGreatDoor
namespace Sha
open Go.RowKit Mem
theorem elemRW:elemR Tryz.prog 140 159 zeroPut 2 32:=⟨Tryz.underlying140,by kernel_rfl⟩
theorem pv_wait {F D:Foot} {br bb n N:Nat} {w w2 w3 w5 w8:World} {s:St6} {vw vs vt vw' v2:Value} {x:Lb8} {ws:List (Nat × Value)} (h:PV F D br bb w s vw vs vt) (he:Each2 (fun p q=>p.1=q.1∧SlB D w p.2 q.2) ws s.w)
 (hb:Below w.heap.size w w2) (ho:OwnB w2 w.heap.size v2 x) (hb2:Below w2.heap.size w2 w3) (ha:App w3 w5 vw vw') (hb5:Below 0 w3 w5) (ho5:w5.ownsRow 0 159 2 vw' (s.w.length+1) (putC ws++[.int .i64 (n:Int),v2]))
 (hN:N=s.n) (hA:At w8 br (pRow bb N vw' vs vt) 142) (hk2:∀ k,k≠br→w8.heap[k]?=w5.heap[k]?) (hk:∀ B a,Below B a w5→B≤br→Below B a w8) :
 PV (grow F w w8) (fun k=>D k∨v2.ownBlock=some k) br bb w8 { s with w:=s.w++[(n,x)] } vw' vs vt∧Chg F w w8:=by
 obtain ⟨m2,s2⟩:=pm_data h.m h.blt hb ho
 have m3:=m2.keep hb2.size fun k _ _ hlt=>hb2.block k hlt
 have hb3:Below w.heap.size w w3:=hb.trans (hb2.mono hb.size)
 have e3:Each2 (fun p q=>p.1=q.1∧SlB (fun k=>D k∨v2.ownBlock=some k) w3 p.2 q.2) (ws++[(n,v2)]) (s.w++[(n,x)]):=
  Each2.snoc ⟨rfl,s2.keep hb2.size fun k _ hlt=>hb2.block k hlt⟩ (he.mono fun _ _ h=>⟨h.1,(h.2.keep hb3.size fun k _ hlt=>hb3.block k hlt).mono fun _ hk _=>.inl hk⟩)
 have m5:=pm_wait m3 (Nat.lt_of_lt_of_le h.blt hb3.size) ⟨_,h.row.below hb3 h.blt⟩ ha e3 (by rw [List.length_append,putC_snoc];exact ho5)
 have c3:Chg F w w3:=Chg.of_below hb3
 exact pv_set (s':={ s with w:=s.w++[(n,x)] }) h hN (c3.trans (F1:=F) (ha.chg hb5 fun k e=>(h.m.ow k e).1) fun k hk=>.inl hk) hA hk2 hk m5 (fun k hk _=>by
  rcases hk with (hk | hk) | hk
  ·exact .inl hk
  ·exact .inr hk
  ·exact .inr (Nat.le_trans hb3.size hk))
theorem pwrite_good {F:Foot} {br:Nat} {s:St6} (n:Nat) (x:Lb8) (v:Value) (w:World) (hr:PSt F br w s) (hok:Ok6 1000 s) (hx:Sl w v x) (hn:n < s.n) (hxl:x.length=256) :
 Calls Tryz.prog 57 #[rq br,.int .i64 (n:Int),v] w fun e w'=>e=.returned (.int .i64 0)∧StEnd PSt F br w (dvWrite s n x) w':=by
 obtain ⟨D,bb,vw,vs,vt,hv⟩:=hr
 obtain ⟨aw,capw,rfl⟩:=hv.w_hd
 have hck:=pcheck_good br bb s.n n _ vs vt w hv.row hok.n2 hn
 have hm1:=hok.w
 have ht:s.t.length≤1001:=Nat.le_succ_of_le hok.t
 obtain ⟨ws,he,hown⟩:=hv.m.hw
 have hne:=own_ne_at hown hv.row (by decide)
 have hcl:=pclone_any x v w.drew (by omega) (hx.below (Below.refl _ _).drew)
 obtain ⟨ax,capx,rfl,_,_⟩:=hx
 rw [hxl] at hcl ⊢
 obtain ⟨N,hN⟩:∃ N,N=s.n:=⟨_,rfl⟩
 obtain ⟨M,hM⟩:∃ M,M=s.w.length:=⟨_,rfl⟩
 have hrow:=hv.row
 rw [←hM] at hrow hm1 hown hne hv
 rw [←hN] at hrow
 have hv2:=hv.below (Below.refl _ _).drew
 have c1:w.drew.cell? ⟨br,1,none⟩=some (.slice aw M capw):=by show w.cell? _=_;rw [hrow.cell];rfl
 have hbld:∀ (a2:Option Addr) (l c:Nat) (wx:World),(Instr.build 159 #[(0,.int .i64 (n:Int)),(1,.slice a2 l c)]).run Tryz.prog wx=.ok (.agg (wRow n (.slice a2 l c))) wx:=fun a2 l c wx=>by
  unfold wRow
  go_simp
 have HV:=zh hv2;have CK:=zh hck;have CL:=zh hcl;have HROW:Hid (At w.drew br (pRow bb N (.slice aw M capw) vs vt) 142):=hrow.drew;have HO:Hid (w.drew.ownsRow 0 159 2 (.slice aw M capw) M (putC ws)):=hown;have HE:Hid (Each2 (fun p q=>p.1=q.1∧SlB D w.drew p.2 q.2) ws s.w):=he;have NE:=zh hne;have C1:=zh c1;have XL:=zh hxl;have HN:=zh hN;have HM:=zh hM;have HT:=zh ht;have BLD:=zh hbld
 clear hv hv2 hck hcl hrow hown he hne c1 hxl hN hM ht hbld hok
 go_enter Tryz.func57,Tryz.ntmps57
 go_wp2_with fail
 refine CK.out.mono ?_
 rintro o w' ⟨rfl,rfl⟩
 go_wp2_with fail
 refine wp_region_plan_in (fun _=>True) (.take 0 (.take 1 (.take 2 (.take 3 (.take 5 (.take 6 (.two 4 7 (.sole 7 (.take 8 (.sole 9 (.sole 10 (.take 11 (.take 12 (.sole 13 .done))))))) (.take 8 (.two 4 9 (.sole 9 (.sole 10 (.take 11 (.take 12 (.sole 13 .done))))) (.sole 4 (.sole 10 (.take 11 (.take 12 (.sole 13 .done)))))))))))))) (by kernel_rfl) (by kernel_rfl) (by kernel_rfl) trivial ?_
 iterate 2 ((first | refine Mem.pm1 ?_ | refine Mem.pm2 ?_ | refine Mem.pt ?_ | refine Mem.pf ?_);(simp only [Mem.zp,Mem.pb,Mem.pc]))
 refine plan_nilcheck _ ⟨br,0,none⟩ zr zr zr ze ?_
 (simp only [Mem.zp,Mem.pb,Mem.pc])
 refine plan_field 142 _ 1 br 0 ⟨br,1,none⟩ zr zr zr ze (fun wx=>by go_simp) ?_
 (simp only [Mem.zp,Mem.pb,Mem.pc])
 iterate 2 ((first | refine Mem.pm1 ?_ | refine Mem.pm2 ?_ | refine Mem.pt ?_ | refine Mem.pf ?_);(simp only [Mem.zp,Mem.pb,Mem.pc]))
 refine plan_two ?_ ?_
 ·refine plan_sole_cell 140 _ _ (.slice aw M capw) _ zr zr zr ze (by first | exact C1.out | exact C2.out | exact C3.out) Tryz.underlying140 zr trivial ?_
  (simp only [Mem.zp,Mem.pb,Mem.pc])
  refine plan_call 64 _ _ _ (by kernel_rfl) zr zr zr (by first | exact Mem.ev_none _ | (simp only [List.map_toArray,List.map_cons,List.map_nil,Mem.ev_tmp,List.getD_cons_succ,List.getD_cons_zero] <;> rfl)) ?_
  refine CL.out.mono ?_
  rintro o w2 ⟨v2,rfl,ho2,hb2⟩
  obtain ⟨a2,c2,rfl⟩:=own_hd ho2 XL.out.symm
  have C2:Hid (w2.cell? ⟨br,1,none⟩=some (.slice aw M capw)):=by have h:=C1.out;rw [hb2.cell (p:=⟨br,1,none⟩) HV.out.blt];exact h
  have C3:Hid ((w2.alloc (.cells (wRow n (.slice a2 256 c2)) 159)).cell? ⟨br,1,none⟩=some (.slice aw M capw)):=(cell_alloc (block_lt_of_cell C2.out)).trans C2.out
  have O2:=zh ho2;have B2:=zh hb2;have OW:=zh (ownsRow_below (ownsRow_below HO.out hb2) ((Below.refl _ w2).alloc (Nat.le_refl _) (.cells (wRow n (.slice a2 256 c2)) 159)))
  clear ho2 hb2
  refine ⟨_,rfl,trivial,?_⟩
  (simp only [Mem.zp,Mem.pb,Mem.pc])
  refine plan_build 159 _ #[(0,.int .i64 (n:Int)),(1,.slice a2 256 c2)] (.agg (wRow n (.slice a2 256 c2))) zr zr zr (by first | rfl | simp [Act.eval]) (fun wx=>BLD.out _ _ _ wx) ?_
  (simp only [Mem.zp,Mem.pb,Mem.pc])
  refine plan_slice 140 159 1 _ (wRow n (.slice a2 256 c2)) zr zr zr Tryz.underlying140 (by kernel_rfl) trivial ?_
  (simp only [Mem.zp,Mem.pb,Mem.pc])
  refine plan_append_app _ _ 140 zr zr zr (.slice (some ⟨w2.heap.size,0,none⟩) 1 1) M 1 2 [.int .i64 (n:Int),.slice a2 256 c2] zeroPut 32 elemRW zr (by decide) ze OW.out ze (by exact rdR_new (e:=159) (C:=wRow n (.slice a2 256 c2))) (by simp [Value.oneCell']) (by omega) (by omega) (by omega) ?_
  intro v5 w5 ho5 ha5 hb5
  obtain ⟨a5,c5,rfl⟩:=rows_hd ho5
  have O5:=zh ho5;have A5:=zh ha5;have B5:=zh hb5
  have R5:Hid (At w5 br (pRow bb N (.slice aw M capw) vs vt) 142):=at_appd (((HROW.out.below B2.out HV.out.blt)).alloc _) A5.out NE.out
  clear ho5 ha5 hb5
  refine ⟨trivial,?_⟩
  (simp only [Mem.zp,Mem.pb,Mem.pc])
  refine plan_nilcheck _ ⟨br,0,none⟩ zr zr zr ze ?_
  (simp only [Mem.zp,Mem.pb,Mem.pc])
  refine plan_field 142 _ 1 br 0 ⟨br,1,none⟩ zr zr zr ze (fun wx=>by go_simp) ?_
  (simp only [Mem.zp,Mem.pb,Mem.pc])
  refine plan_store_one 140 _ _ br 1 (.slice a5 (M+1) c5) _ 142 zr zr zr zr ze ze zr infoWs R5.out (by simp [pRow]) trivial ?_
  refine plan_nil ?_
  have E8:=zh (pv_wait (n:=n) HV.out HE.out B2.out O2.out ((Below.refl _ w2).alloc (Nat.le_refl _) _) A5.out B5.out (by rw [←HM.out];exact O5.out) HN.out (R5.out.set 1 (.slice a5 (M+1) c5)) (fun k hk=>heap_setCell_other w5 ⟨br,1,none⟩ k _ hk) (fun B a hB hle=>hB.setCell hle _))
  generalize w5.setCell ⟨br,1,none⟩ (.slice a5 (M+1) c5)=w8 at *
  go_wp2_with fail
  refine (pnote_any (n:Int) w8 E8.out.1.ps HT.out).mono ?_
  rintro o w9 ⟨rfl,hs9⟩
  have S9:=zh hs9
  clear hs9
  go_wp2_with fail
  go_ret
  exact ⟨rfl,StEnd.trans ((Chg.refl F w).drew) (fun k hk=>.inl hk) (StEnd.trans E8.out.2 grow_ext S9.out)⟩
 ·refine plan_call 64 _ _ _ (by kernel_rfl) zr zr zr (by first | exact Mem.ev_none _ | (simp only [List.map_toArray,List.map_cons,List.map_nil,Mem.ev_tmp,List.getD_cons_succ,List.getD_cons_zero] <;> rfl)) ?_
  refine CL.out.mono ?_
  rintro o w2 ⟨v2,rfl,ho2,hb2⟩
  obtain ⟨a2,c2,rfl⟩:=own_hd ho2 XL.out.symm
  have C2:Hid (w2.cell? ⟨br,1,none⟩=some (.slice aw M capw)):=by have h:=C1.out;rw [hb2.cell (p:=⟨br,1,none⟩) HV.out.blt];exact h
  have C3:Hid ((w2.alloc (.cells (wRow n (.slice a2 256 c2)) 159)).cell? ⟨br,1,none⟩=some (.slice aw M capw)):=(cell_alloc (block_lt_of_cell C2.out)).trans C2.out
  have O2:=zh ho2;have B2:=zh hb2;have OW:=zh (ownsRow_below (ownsRow_below HO.out hb2) ((Below.refl _ w2).alloc (Nat.le_refl _) (.cells (wRow n (.slice a2 256 c2)) 159)))
  clear ho2 hb2
  refine ⟨_,rfl,trivial,?_⟩
  (simp only [Mem.zp,Mem.pb,Mem.pc])
  refine plan_build 159 _ #[(0,.int .i64 (n:Int)),(1,.slice a2 256 c2)] (.agg (wRow n (.slice a2 256 c2))) zr zr zr (by first | rfl | simp [Act.eval]) (fun wx=>BLD.out _ _ _ wx) ?_
  (simp only [Mem.zp,Mem.pb,Mem.pc])
  refine plan_two ?_ ?_
  ·refine plan_sole_cell 140 _ _ (.slice aw M capw) _ zr zr zr ze (by first | exact C1.out | exact C2.out | exact C3.out) Tryz.underlying140 zr trivial ?_
   (simp only [Mem.zp,Mem.pb,Mem.pc])
   refine plan_slice 140 159 1 _ (wRow n (.slice a2 256 c2)) zr zr zr Tryz.underlying140 (by kernel_rfl) trivial ?_
   (simp only [Mem.zp,Mem.pb,Mem.pc])
   refine plan_append_app _ _ 140 zr zr zr (.slice (some ⟨w2.heap.size,0,none⟩) 1 1) M 1 2 [.int .i64 (n:Int),.slice a2 256 c2] zeroPut 32 elemRW zr (by decide) ze OW.out ze (by exact rdR_new (e:=159) (C:=wRow n (.slice a2 256 c2))) (by simp [Value.oneCell']) (by omega) (by omega) (by omega) ?_
   intro v5 w5 ho5 ha5 hb5
   obtain ⟨a5,c5,rfl⟩:=rows_hd ho5
   have O5:=zh ho5;have A5:=zh ha5;have B5:=zh hb5
   have R5:Hid (At w5 br (pRow bb N (.slice aw M capw) vs vt) 142):=at_appd (((HROW.out.below B2.out HV.out.blt)).alloc _) A5.out NE.out
   clear ho5 ha5 hb5
   refine ⟨trivial,?_⟩
   (simp only [Mem.zp,Mem.pb,Mem.pc])
   refine plan_nilcheck _ ⟨br,0,none⟩ zr zr zr ze ?_
   (simp only [Mem.zp,Mem.pb,Mem.pc])
   refine plan_field 142 _ 1 br 0 ⟨br,1,none⟩ zr zr zr ze (fun wx=>by go_simp) ?_
   (simp only [Mem.zp,Mem.pb,Mem.pc])
   refine plan_store_one 140 _ _ br 1 (.slice a5 (M+1) c5) _ 142 zr zr zr zr ze ze zr infoWs R5.out (by simp [pRow]) trivial ?_
   refine plan_nil ?_
   have E8:=zh (pv_wait (n:=n) HV.out HE.out B2.out O2.out ((Below.refl _ w2).alloc (Nat.le_refl _) _) A5.out B5.out (by rw [←HM.out];exact O5.out) HN.out (R5.out.set 1 (.slice a5 (M+1) c5)) (fun k hk=>heap_setCell_other w5 ⟨br,1,none⟩ k _ hk) (fun B a hB hle=>hB.setCell hle _))
   generalize w5.setCell ⟨br,1,none⟩ (.slice a5 (M+1) c5)=w8 at *
   go_wp2_with fail
   refine (pnote_any (n:Int) w8 E8.out.1.ps HT.out).mono ?_
   rintro o w9 ⟨rfl,hs9⟩
   have S9:=zh hs9
   clear hs9
   go_wp2_with fail
   go_ret
   exact ⟨rfl,StEnd.trans ((Chg.refl F w).drew) (fun k hk=>.inl hk) (StEnd.trans E8.out.2 grow_ext S9.out)⟩
  ·refine plan_slice 140 159 1 _ (wRow n (.slice a2 256 c2)) zr zr zr Tryz.underlying140 (by kernel_rfl) trivial ?_
   (simp only [Mem.zp,Mem.pb,Mem.pc])
   refine plan_sole_cell 140 _ _ (.slice aw M capw) _ zr zr zr ze (by first | exact C1.out | exact C2.out | exact C3.out) Tryz.underlying140 zr trivial ?_
   (simp only [Mem.zp,Mem.pb,Mem.pc])
   refine plan_append_app _ _ 140 zr zr zr (.slice (some ⟨w2.heap.size,0,none⟩) 1 1) M 1 2 [.int .i64 (n:Int),.slice a2 256 c2] zeroPut 32 elemRW zr (by decide) ze OW.out ze (by exact rdR_new (e:=159) (C:=wRow n (.slice a2 256 c2))) (by simp [Value.oneCell']) (by omega) (by omega) (by omega) ?_
   intro v5 w5 ho5 ha5 hb5
   obtain ⟨a5,c5,rfl⟩:=rows_hd ho5
   have O5:=zh ho5;have A5:=zh ha5;have B5:=zh hb5
   have R5:Hid (At w5 br (pRow bb N (.slice aw M capw) vs vt) 142):=at_appd (((HROW.out.below B2.out HV.out.blt)).alloc _) A5.out NE.out
   clear ho5 ha5 hb5
   refine ⟨trivial,?_⟩
   (simp only [Mem.zp,Mem.pb,Mem.pc])
   refine plan_nilcheck _ ⟨br,0,none⟩ zr zr zr ze ?_
   (simp only [Mem.zp,Mem.pb,Mem.pc])
   refine plan_field 142 _ 1 br 0 ⟨br,1,none⟩ zr zr zr ze (fun wx=>by go_simp) ?_
   (simp only [Mem.zp,Mem.pb,Mem.pc])
   refine plan_store_one 140 _ _ br 1 (.slice a5 (M+1) c5) _ 142 zr zr zr zr ze ze zr infoWs R5.out (by simp [pRow]) trivial ?_
   refine plan_nil ?_
   have E8:=zh (pv_wait (n:=n) HV.out HE.out B2.out O2.out ((Below.refl _ w2).alloc (Nat.le_refl _) _) A5.out B5.out (by rw [←HM.out];exact O5.out) HN.out (R5.out.set 1 (.slice a5 (M+1) c5)) (fun k hk=>heap_setCell_other w5 ⟨br,1,none⟩ k _ hk) (fun B a hB hle=>hB.setCell hle _))
   generalize w5.setCell ⟨br,1,none⟩ (.slice a5 (M+1) c5)=w8 at *
   go_wp2_with fail
   refine (pnote_any (n:Int) w8 E8.out.1.ps HT.out).mono ?_
   rintro o w9 ⟨rfl,hs9⟩
   have S9:=zh hs9
   clear hs9
   go_wp2_with fail
   go_ret
   exact ⟨rfl,StEnd.trans ((Chg.refl F w).drew) (fun k hk=>.inl hk) (StEnd.trans E8.out.2 grow_ext S9.out)⟩
end Sha
end Go.Proofs.YtlhnegbjoncieaaGreatDoor
