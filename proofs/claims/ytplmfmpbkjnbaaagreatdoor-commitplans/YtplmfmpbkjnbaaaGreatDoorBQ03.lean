/- The walk of a block that turns a state. -/
import Derived.Test.YtplmfmpbkjnbaaaGreatDoorBQ00
set_option maxRecDepth 100000
set_option maxHeartbeats 1000000
namespace Go.Proofs.YtplmfmpbkjnbaaaGreatDoor
namespace Sha
open Go.RowKit Mem
def Tab (w:World) (g:Nat) (l:List (BitVec 32)):Prop:=g < w.heap.size∧∀ i,i < l.length→w.cell? ⟨g,i,none⟩=some (.int .u32 (V (l.getD i 0)))
theorem Tab.below {w w':World} {B g:Nat} {l:List (BitVec 32)} (h:Tab w g l) (hb:Below B w w') (hlt:g < B):Tab w' g l:=
 ⟨Nat.lt_of_lt_of_le h.1 hb.size,fun i hi=>by rw [hb.cell (p:=⟨g,i,none⟩) hlt];exact h.2 i hi⟩
theorem Tab.keep {w w':World} {b g:Nat} {l:List (BitVec 32)} (h:Tab w g l) (o:∀ k,k≠b→w'.heap[k]?=w.heap[k]?) (hne:g≠b):Tab w' g l:=by
 have e:=o g hne
 refine ⟨?_,fun i hi=>by rw [World.cell?_of_block (w:=w) (w':=w') e];exact h.2 i hi⟩
 have h1:=h.1
 rcases Nat.lt_or_ge g w'.heap.size with h2 | h2
 ·exact h2
 ·rw [Array.getElem?_eq_none h2,Array.getElem?_eq_getElem h1] at e
  cases e
theorem Tab.set_other {w:World} {g:Nat} {l:List (BitVec 32)} (h:Tab w g l) (a:Addr) (v:Value) (hne:g≠a.block):Tab (w.setCell a v) g l:=
 h.keep (b:=a.block) (fun k hk=>heap_setCell_other w a k v hk) hne
structure Tabs (w:World):Prop where
 k:Tab w 1 Kl
 f:Tab w 0 IVl
theorem Tabs.below {w w':World} {B:Nat} (h:Tabs w) (hb:Below B w w') (hB:w.heap.size≤B):Tabs w':=
 ⟨h.k.below hb (Nat.lt_of_lt_of_le h.k.1 hB),h.f.below hb (Nat.lt_of_lt_of_le h.f.1 hB)⟩
theorem turn_q (x:BitVec 32) (n:Int) (r:Nat) (w:World) (hr:(n % 32).toNat=r) (h0:-9223372036854775808≤n) (h1:n≤9223372036854775807) :
 Calls Tryz.prog 210 #[.int .u32 (V x),.int .i64 n] w fun e w'=>e=.returned (.int .u32 (V (x.rotateRight r)))∧w'=w:=
 (turn_any x n r w hr h0 h1).mono fun _ _ ⟨a,b⟩=>⟨a,b.symm⟩
def Z8:Array Value:=(u32s (List.replicate 8 0)).toArray
theorem zero8 (w:World):(zeroValue 258).run Tryz.prog w=.ok (.agg Z8) w:=by kernel_rfl
theorem info8:(Tryz.prog.info? 258).map (·.size)=some 8:=by kernel_rfl
theorem infoW:(Tryz.prog.info? 23).map (·.size)=some 1:=by kernel_rfl
theorem info64b:(Tryz.prog.info? 259).map (·.size)=some 64:=by kernel_rfl
structure AInv (B Bw:Nat) (w:World) (Hr D:Array Value) (wr:World):Prop where
 h:At wr B Hr 258
 r:At wr (B+2) Z8 258
 d:At wr Bw D 302
 tabs:Tabs wr
 b:Below B w wr
theorem AInv.drewN {B Bw n:Nat} {w wr:World} {Hr D:Array Value} (h:AInv B Bw w Hr D wr):AInv B Bw w Hr D (wr.drewN n):=
 ⟨h.h,h.r,h.d,⟨h.tabs.k,h.tabs.f⟩,Below.drewN' h.b⟩
def Slots (r:Reg) (a b c d e f g h:Value):Prop:=
 a=.int .u32 (V r.a)∧b=.int .u32 (V r.b)∧c=.int .u32 (V r.c)∧d=.int .u32 (V r.d)∧e=.int .u32 (V r.e)∧f=.int .u32 (V r.f)∧g=.int .u32 (V r.g)∧h=.int .u32 (V r.h)
theorem addBlock_any (H:List (BitVec 32)) (T:Lb8) (hH:H.length=8) (hT:T.length=64) (w:World) (hL:Tabs w) :
 Calls Tryz.prog 205 #[.agg (u32s H).toArray,.agg (u8s T).toArray] w fun e w'=>e=.returned (.agg (u32s (addB H T)).toArray)∧Below w.heap.size w w':=by
 obtain ⟨Hr,hHr⟩:∃ A,A=(u32s H).toArray:=⟨_,rfl⟩
 obtain ⟨Tr,hTr⟩:∃ A,A=(u8s T).toArray:=⟨_,rfl⟩
 obtain ⟨Z,hZ⟩:∃ A,A=Z64:=⟨_,rfl⟩
 obtain ⟨Y,hY⟩:∃ A,A=Z8:=⟨_,rfl⟩
 obtain ⟨D,hD⟩:∃ A,A=(u32s (sched T)).toArray:=⟨_,rfl⟩
 have hsc:∀ w,Calls Tryz.prog 209 #[.agg Tr] w fun e w'=>e=.returned (.agg D)∧Below w.heap.size w w':=by
  rw [hTr,hD];exact sched_any T hT
 have hz:=zero64
 have hy:=zero8
 have sT:Tr.size=64:=by rw [hTr];simp [u8s,hT]
 have sD:D.size=64:=by rw [hD];simp [u32s,sched,ext_length,wds_length]
 have sZ:Z.size=64:=by rw [hZ];exact wrow_size [] (by simp)
 have oD:D.all (·.oneCell')=true:=by rw [hD];exact u32s_one _
 rw [←hHr,←hTr]
 rw [←hZ] at hz
 rw [←hY] at hy
 have HHr:=zh hHr;have HTr:=zh hTr;have HZ:=zh hZ;have HY:=zh hY;have HD:=zh hD;have HSC:=zh hsc
 have HT:=zh hT;have HH:=zh hH;have ST:=zh sT;have SD:=zh sD;have SZ:=zh sZ;have OD:=zh oD;have HL:=zh hL
 clear hHr hTr hZ hY hD hsc hT hH sT sD sZ oD hL
 have aT:At (((w.alloc (.cells Hr 258)).alloc (.cells Tr 259)).alloc (.cells Y 258)) (w.heap.size+1) Tr 259:=by
  have:=(at_new (w.alloc (.cells Hr 258)) Tr 259).alloc (.cells Y 258)
  simpa using this
 have AT:=zh aT;clear aT
 go_enter Tryz.func205,Tryz.ntmps205
 go_wp2_with (first | (refine wpList_load_all zr 259 _ zr _ zr _ Tryz.underlying259 zr _ _ AT.out (by rw [ST.out];exact info64b) ?_) | (go_at_call 209;refine (HSC.out _).mono ?_;rintro e w2 ⟨rfl,hb2⟩) | (refine wpList_store_new zr 302 _ _ zr zr D _ _ zr zr (by rw [SD.out];exact info64) (by rw [SD.out,SZ.out]) OD.out ?_))
 clear hz hy
 have hI:AInv w.heap.size w2.heap.size w Hr D (w2.alloc (.cells D 302)):=by
  have hb1:Below w.heap.size w (((w.alloc (.cells Hr 258)).alloc (.cells Tr 259)).alloc (.cells Y 258)):=(((Below.refl _ _).alloc (Nat.le_refl _) _).alloc (by simp) _).alloc (by simp;omega) _
  have aH:At (((w.alloc (.cells Hr 258)).alloc (.cells Tr 259)).alloc (.cells Y 258)) w.heap.size Hr 258:=((at_new w Hr 258).alloc _).alloc _
  have aY:At (((w.alloc (.cells Hr 258)).alloc (.cells Tr 259)).alloc (.cells Y 258)) (w.heap.size+2) Y 258:=by
   have:=at_new ((w.alloc (.cells Hr 258)).alloc (.cells Tr 259)) Y 258
   simpa using this
  have hsz2:=hb2.size
  have hs1:(((w.alloc (.cells Hr 258)).alloc (.cells Tr 259)).alloc (.cells Y 258)).heap.size=w.heap.size+3:=by simp
  rw [hs1] at hb2 hsz2
  refine ⟨(aH.below hb2 (by omega)).alloc _,?_,at_new w2 D _,?_,?_⟩
  ·rw [←HY.out];exact (aY.below hb2 (by omega)).alloc _
  ·have t1:=HL.out.below hb1 (Nat.le_refl _)
   have t2:=t1.below hb2 (by rw [hs1];exact Nat.le_refl _)
   exact t2.below ((Below.refl w2.heap.size w2).alloc (Nat.le_refl _) _) (Nat.le_refl _)
  ·exact (hb1.trans (hb2.mono (by omega))).alloc (by omega) _
 have hBw:w.heap.size+3≤w2.heap.size:=by have:=hb2.size;simpa using this
 clear hb2
 generalize hB2:w2.alloc (.cells D 302)=w3 at *
 generalize w2.heap.size=Bw at *
 clear hB2 w2
 have f0:w3.cell? ⟨0,0,none⟩=some (.int .u32 (V (IVl.getD 0 0))):=hI.tabs.f.2 0 (by decide)
 have h0:w3.cell? ⟨w.heap.size,0,none⟩=some (.int .u32 (V (H.getD 0 0))):=by rw [hI.h.cell,HHr.out,List.getElem?_toArray];exact u32s_get H 0 (by rw [HH.out];decide)
 have f1:w3.cell? ⟨0,1,none⟩=some (.int .u32 (V (IVl.getD 1 0))):=hI.tabs.f.2 1 (by decide)
 have h1:w3.cell? ⟨w.heap.size,1,none⟩=some (.int .u32 (V (H.getD 1 0))):=by rw [hI.h.cell,HHr.out,List.getElem?_toArray];exact u32s_get H 1 (by rw [HH.out];decide)
 have f2:w3.cell? ⟨0,2,none⟩=some (.int .u32 (V (IVl.getD 2 0))):=hI.tabs.f.2 2 (by decide)
 have h2:w3.cell? ⟨w.heap.size,2,none⟩=some (.int .u32 (V (H.getD 2 0))):=by rw [hI.h.cell,HHr.out,List.getElem?_toArray];exact u32s_get H 2 (by rw [HH.out];decide)
 have f3:w3.cell? ⟨0,3,none⟩=some (.int .u32 (V (IVl.getD 3 0))):=hI.tabs.f.2 3 (by decide)
 have h3:w3.cell? ⟨w.heap.size,3,none⟩=some (.int .u32 (V (H.getD 3 0))):=by rw [hI.h.cell,HHr.out,List.getElem?_toArray];exact u32s_get H 3 (by rw [HH.out];decide)
 have f4:w3.cell? ⟨0,4,none⟩=some (.int .u32 (V (IVl.getD 4 0))):=hI.tabs.f.2 4 (by decide)
 have h4:w3.cell? ⟨w.heap.size,4,none⟩=some (.int .u32 (V (H.getD 4 0))):=by rw [hI.h.cell,HHr.out,List.getElem?_toArray];exact u32s_get H 4 (by rw [HH.out];decide)
 have f5:w3.cell? ⟨0,5,none⟩=some (.int .u32 (V (IVl.getD 5 0))):=hI.tabs.f.2 5 (by decide)
 have h5:w3.cell? ⟨w.heap.size,5,none⟩=some (.int .u32 (V (H.getD 5 0))):=by rw [hI.h.cell,HHr.out,List.getElem?_toArray];exact u32s_get H 5 (by rw [HH.out];decide)
 have f6:w3.cell? ⟨0,6,none⟩=some (.int .u32 (V (IVl.getD 6 0))):=hI.tabs.f.2 6 (by decide)
 have h6:w3.cell? ⟨w.heap.size,6,none⟩=some (.int .u32 (V (H.getD 6 0))):=by rw [hI.h.cell,HHr.out,List.getElem?_toArray];exact u32s_get H 6 (by rw [HH.out];decide)
 have f7:w3.cell? ⟨0,7,none⟩=some (.int .u32 (V (IVl.getD 7 0))):=hI.tabs.f.2 7 (by decide)
 have h7:w3.cell? ⟨w.heap.size,7,none⟩=some (.int .u32 (V (H.getD 7 0))):=by rw [hI.h.cell,HHr.out,List.getElem?_toArray];exact u32s_get H 7 (by rw [HH.out];decide)
 obtain ⟨p0,hp0⟩:∃ p,p=IVl.getD 0 0:=⟨_,rfl⟩
 obtain ⟨q0,hq0⟩:∃ q,q=H.getD 0 0:=⟨_,rfl⟩
 rw [←hp0] at f0
 rw [←hq0] at h0
 have P0:=zh hp0;have Q0:=zh hq0;clear hp0 hq0
 obtain ⟨p1,hp1⟩:∃ p,p=IVl.getD 1 0:=⟨_,rfl⟩
 obtain ⟨q1,hq1⟩:∃ q,q=H.getD 1 0:=⟨_,rfl⟩
 rw [←hp1] at f1
 rw [←hq1] at h1
 have P1:=zh hp1;have Q1:=zh hq1;clear hp1 hq1
 obtain ⟨p2,hp2⟩:∃ p,p=IVl.getD 2 0:=⟨_,rfl⟩
 obtain ⟨q2,hq2⟩:∃ q,q=H.getD 2 0:=⟨_,rfl⟩
 rw [←hp2] at f2
 rw [←hq2] at h2
 have P2:=zh hp2;have Q2:=zh hq2;clear hp2 hq2
 obtain ⟨p3,hp3⟩:∃ p,p=IVl.getD 3 0:=⟨_,rfl⟩
 obtain ⟨q3,hq3⟩:∃ q,q=H.getD 3 0:=⟨_,rfl⟩
 rw [←hp3] at f3
 rw [←hq3] at h3
 have P3:=zh hp3;have Q3:=zh hq3;clear hp3 hq3
 obtain ⟨p4,hp4⟩:∃ p,p=IVl.getD 4 0:=⟨_,rfl⟩
 obtain ⟨q4,hq4⟩:∃ q,q=H.getD 4 0:=⟨_,rfl⟩
 rw [←hp4] at f4
 rw [←hq4] at h4
 have P4:=zh hp4;have Q4:=zh hq4;clear hp4 hq4
 obtain ⟨p5,hp5⟩:∃ p,p=IVl.getD 5 0:=⟨_,rfl⟩
 obtain ⟨q5,hq5⟩:∃ q,q=H.getD 5 0:=⟨_,rfl⟩
 rw [←hp5] at f5
 rw [←hq5] at h5
 have P5:=zh hp5;have Q5:=zh hq5;clear hp5 hq5
 obtain ⟨p6,hp6⟩:∃ p,p=IVl.getD 6 0:=⟨_,rfl⟩
 obtain ⟨q6,hq6⟩:∃ q,q=H.getD 6 0:=⟨_,rfl⟩
 rw [←hp6] at f6
 rw [←hq6] at h6
 have P6:=zh hp6;have Q6:=zh hq6;clear hp6 hq6
 obtain ⟨p7,hp7⟩:∃ p,p=IVl.getD 7 0:=⟨_,rfl⟩
 obtain ⟨q7,hq7⟩:∃ q,q=H.getD 7 0:=⟨_,rfl⟩
 rw [←hp7] at f7
 rw [←hq7] at h7
 have P7:=zh hp7;have Q7:=zh hq7;clear hp7 hq7
 have HI:=zh hI;clear hI
 go_quiet (fail)
 go_wp2_with fail
 go_quiet (fail)
 go_wp2_with fail
 obtain ⟨R,hR⟩:∃ R,R=regOf (adds IVl H):=⟨_,rfl⟩
 have HR:=zh hR;clear hR
 go_loopw [6,7,8,9,10,11,12,13,61] (fun a b c d e f g h i wr=>∃ t:Nat,t≤64∧i=.int .i64 t∧Slots (rnds (sched T) R t) a b c d e f g h∧AInv w.heap.size Bw w Hr D wr) (fun _ _ _ _ _ _ _ _ i _=>64 - (intOf i).toNat)
 case atStart=>
  refine ⟨0,by omega,rfl,?_,HI.out.drewN.drewN⟩
  have e:R=⟨p0+q0,p1+q1,p2+q2,p3+q3,p4+q4,p5+q5,p6+q6,p7+q7⟩:=by
   have hl:=HH.out
   rw [HR.out,P0.out,P1.out,P2.out,P3.out,P4.out,P5.out,P6.out,P7.out,Q0.out,Q1.out,Q2.out,Q3.out,Q4.out,Q5.out,Q6.out,Q7.out]
   match H,hl with
   | [a,b,c,d,e,f,g,h],_=>rfl
  rw [r_add,r_add,r_add,r_add,r_add,r_add,r_add,r_add,e]
  exact ⟨rfl,rfl,rfl,rfl,rfl,rfl,rfl,rfl⟩
 case round=>
  obtain ⟨t,ht,rfl,⟨rfl,rfl,rfl,rfl,rfl,rfl,rfl,rfl⟩,hI⟩:=hrel
  by_cases hlt:t < 64
  ·obtain ⟨r,hr⟩:∃ r,r=rnds (sched T) R t:=⟨_,rfl⟩
   rw [←hr]
   have HRR:=zh hr;clear hr
   obtain ⟨ra,rb,rc,rd,re,rf,rg,rh⟩:=r
   have ck:wr.cell? ⟨1,t,none⟩=some (.int .u32 (V (Kl.getD t 0))):=hI.tabs.k.2 t hlt
   have cm:wr.cell? ⟨Bw,t,none⟩=some (.int .u32 (V ((sched T).getD t 0))):=by
    rw [hI.d.cell,HD.out,List.getElem?_toArray];exact u32s_get _ t (by rw [sched,ext_length,wds_length];exact hlt)
   obtain ⟨k,hk⟩:∃ k,k=Kl.getD t 0:=⟨_,rfl⟩
   obtain ⟨m,hm⟩:∃ m,m=(sched T).getD t 0:=⟨_,rfl⟩
   rw [←hk] at ck
   rw [←hm] at cm
   have HK:=zh hk;have HM:=zh hm;have HI':=zh hI
   clear hk hm hI
   have T6:=zh (fun w=>turn_q re 6 6 w rfl (by decide) (by decide))
   have T11:=zh (fun w=>turn_q re 11 11 w rfl (by decide) (by decide))
   have T25:=zh (fun w=>turn_q re 25 25 w rfl (by decide) (by decide))
   have T2:=zh (fun w=>turn_any ra 2 2 w rfl (by decide) (by decide))
   have T13:=zh (fun w=>turn_any ra 13 13 w rfl (by decide) (by decide))
   have T22:=zh (fun w=>turn_any ra 22 22 w rfl (by decide) (by decide))
   go_wp2_with fail
   go_quiet ((go_at_call 210;first | (with_reducible exact Calls.quiet_of_same (T6.out _)) | (with_reducible exact Calls.quiet_of_same (T11.out _)) | (with_reducible exact Calls.quiet_of_same (T25.out _))))
   have HI2:=zh (HI'.out.drewN (n:=nq))
   generalize wr.drewN nq=wq at *
   go_wp2_with (go_at_call 210;first | ((with_reducible refine (T2.out _).mono ?_);rintro e w' ⟨rfl,rfl⟩) | ((with_reducible refine (T13.out _).mono ?_);rintro e w' ⟨rfl,rfl⟩) | ((with_reducible refine (T22.out _).mono ?_);rintro e w' ⟨rfl,rfl⟩))
   go_roundw
   case rel=>
    refine ⟨t+1,by omega,by go_num,?_,HI2.out⟩
    have e:rnds (sched T) R (t+1)=rnd k m ⟨ra,rb,rc,rd,re,rf,rg,rh⟩:=by rw [HK.out,HM.out,HRR.out];rfl
    rw [e]
    have et:=tee_val k m ⟨ra,rb,rc,rd,re,rf,rg,rh⟩
    have ey:=you_val ⟨ra,rb,rc,rd,re,rf,rg,rh⟩
    rw [et,ey,r_add,r_add]
    exact ⟨rfl,rfl,rfl,rfl,rfl,rfl,rfl,rfl⟩
   case measure=>simp [intOf];omega
  ·have ht64:t=64:=by omega
   obtain ⟨r,hr⟩:∃ r,r=rnds (sched T) R t:=⟨_,rfl⟩
   rw [←hr]
   rw [ht64] at hr
   have hge:¬ (t:Int) < 64:=by omega
   have HRR:=zh hr;clear hr ht64 ht hlt
   obtain ⟨ra,rb,rc,rd,re,rf,rg,rh⟩:=r
   obtain ⟨M,hM⟩:∃ M,M=Reg.list ⟨ra,rb,rc,rd,re,rf,rg,rh⟩:=⟨_,rfl⟩
   have hlen:H.length=M.length:=by rw [HH.out,hM];rfl
   have hMl:M.length=8:=by rw [hM];rfl
   have HM:=zh hM;have HLEN:=zh hlen;have HML:=zh hMl;have HI':=zh hI
   clear hM hlen hMl hI
   go_wp2_with fail
   obtain ⟨wo,rfl⟩:∃ wo:World,wo=wr:=⟨_,rfl⟩
   go_loopw [133] (fun i wr=>∃ j:Nat,j≤8∧i=.int .i64 j∧AInv w.heap.size Bw w (u32s (addTo H M j)).toArray D wr) (fun i _=>8 - (intOf i).toNat)
   case atStart=>
    refine ⟨0,by omega,rfl,?_⟩
    have:=HI'.out
    rw [HHr.out] at this
    simpa [addTo] using this
   case round=>
    obtain ⟨j,hj,rfl,hI⟩:=hrel
    by_cases hlt:j < 8
    ·have hl1:(addTo H M j).length=8:=by rw [addTo_length H M HLEN.out,HH.out]
     have ca:wr.cell? ⟨w.heap.size,j,none⟩=some (.int .u32 (V (H.getD j 0))):=by
      rw [hI.h.cell,List.getElem?_toArray,u32s_get _ j (by omega),addTo_get H M HLEN.out j (by rw [HH.out];exact hlt)]
     have fa:wr.frozen? ⟨w.heap.size,j,none⟩=false:=hI.h.free j
     obtain ⟨x,hx⟩:∃ x,x=H.getD j 0:=⟨_,rfl⟩
     rw [←hx] at ca
     have HX:=zh hx;have HI2:=zh hI;have HL1:=zh hl1
     clear hx hI hl1
     have hjv:(u32s M).toArray[j]?=some (.int .u32 (V (M.getD j 0))):=by rw [List.getElem?_toArray];exact u32s_get M j (by rw [HML.out];exact hlt)
     obtain ⟨y,hy'⟩:∃ y,y=M.getD j 0:=⟨_,rfl⟩
     rw [←hy'] at hjv
     have HYV:=zh hy';have HJV:=zh hjv
     clear hy' hjv
     go_wp2_with (refine wpList_index_row zr 258 _ _ zr 8 23 Tryz.underlying258 _ Tryz.underlying23 zr infoW (u32s M).toArray j (by rw [HM.out];rfl) zr hlt _ HJV.out ?_)
     go_roundw
     case rel=>
      refine ⟨j+1,by omega,by go_num,?_⟩
      rw [r_add]
      have hI:=HI2.out
      have e:(u32s (addTo H M j)).toArray.setIfInBounds j (.int .u32 (V (x+y)))=(u32s (addTo H M (j+1))).toArray:=by
       rw [u32s_set,HX.out,HYV.out,addTo_set H M HLEN.out j (by rw [HH.out];exact hlt)]
      have hh:=hI.h.set j (.int .u32 (V (x+y)))
      rw [e] at hh
      have hb2':w.heap.size+3≤Bw:=hBw
      exact ⟨hh,hI.r.set_other _ _ (by simp),hI.d.set_other _ _ (by simp;omega),⟨hI.tabs.k.set_other _ _ (by simp;have:=HL.out.k.1;omega),hI.tabs.f.set_other _ _ (by simp;have:=HL.out.f.1;omega)⟩,hI.b.setCell (by simp) _⟩
     case measure=>simp [intOf];omega
    ·have hj8:j=8:=by omega
     rw [hj8] at hI
     have hge':¬ (j:Int) < 8:=by omega
     have hfin:addTo H M 8=addB H T:=by
      have e:=addTo_all H M HLEN.out
      rw [HH.out] at e
      rw [e,addB,←HR.out,←HRR.out,HM.out]
     rw [hfin] at hI
     have hs8:(u32s (addB H T)).toArray.size=8:=by
      rw [←hfin];simp [u32s,addTo_length H M HLEN.out,HH.out]
     have h8:=hI.h;have hr8:=hI.r;have hb8:=hI.b
     have ho8:=u32s_one (addB H T)
     obtain ⟨E,hE⟩:∃ E,E=(u32s (addB H T)).toArray:=⟨_,rfl⟩
     rw [←hE] at h8 hs8 ho8
     have HE:=zh hE;have H8:=zh h8;have HR8:=zh hr8;have HB8:=zh hb8;have HS8:=zh hs8;have HO8:=zh ho8
     clear hj8 hj hlt hfin hE h8 hr8 hb8 hs8 ho8 hI
     go_wp2_with (first | (refine wpList_load_all zr 258 _ zr _ zr _ Tryz.underlying258 zr _ _ H8.out (by rw [HS8.out];exact info8) ?_) | (refine wpList_store_all zr 258 _ _ zr zr _ _ zr zr (by rw [HS8.out];exact info8) _ _ HR8.out (by rw [HS8.out];rfl) HO8.out ?_))
     try simp only [Exit.inBlock,Exit.then]
     refine ret_row zr (w.heap.size+2) 258 E _ zr (HR8.out.row E) Tryz.underlying258 zr (by rw [HS8.out];exact info8) ?_
     exact ⟨by rw [HE.out],below_row HB8.out (by omega) E⟩
end Sha
end Go.Proofs.YtplmfmpbkjnbaaaGreatDoor
