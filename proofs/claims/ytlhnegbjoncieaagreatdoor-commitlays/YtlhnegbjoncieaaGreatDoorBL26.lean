/- My own texts, merged. -/
import Derived.Test.YtlhnegbjoncieaaGreatDoorBL23
import Derived.Test.YtlhnegbjoncieaaGreatDoorBL13
set_option maxRecDepth 100000
set_option maxHeartbeats 2000000
namespace Go.Proofs.YtlhnegbjoncieaaGreatDoor
namespace Sha
open Go.RowKit Mem
set_option maxRecDepth 100000
theorem b_in (f z m:Int) (h:f≤z∧z < f+m):decide (f≤z∧z < f+m)=true:=decide_eq_true h
theorem b_out (f z m:Int) (h:¬ (f≤z∧z < f+m)):decide (f≤z∧z < f+m)=false:=decide_eq_false h
theorem pblock_any (p:Nat) (z k:Int) (w:World) (h1:p≤216):Calls Tryz.prog 10 #[.agg (psC p),.int .i64 z,.int .i64 k] w (VEnd (.int .i64 (BZ p z k)) w):=by
 have hbig:=itn_le259 p h1
 have hB:BZ p z k=if (0≤z∧z < (itn p:Int))∧0≤k∧k≤1 then 2+2*z+k else -1:=rfl
 obtain ⟨n,hn⟩:∃ n,n=itn p:=⟨_,rfl⟩
 obtain ⟨R,hR⟩:∃ R,R=BZ p z k:=⟨_,rfl⟩
 have it:=fun w=>pitems_any p w h1
 rw [←hn] at it hbig hB
 rw [←hR] at hB ⊢
 have WI:=zh (fun w=>within_any z 0 (n:Int) w (by omega) (by omega) (by omega))
 have WK:=zh (fun w=>within_any k 0 2 w (by omega) (by omega) (by omega))
 have HIF:=zh hB
 clear hn hR hB
 have ha:=at_new w (psC p) 26
 have hb:Below w.heap.size w (w.alloc (.cells (psC p) 26)):=(Below.refl _ _).alloc (Nat.le_refl _) _
 have ms:(psC p).size=1:=rfl
 have c0:(w.alloc (.cells (psC p) 26)).cell? ⟨w.heap.size,0,none⟩=some (.int .i64 (p:Int)):=((at_new w (psC p) _).cell 0).trans rfl
 obtain ⟨M,hM⟩:∃ M,M=psC p:=⟨_,rfl⟩
 rw [←hM] at it ha hb ms c0 ⊢
 obtain ⟨w1,hw1⟩:∃ w1,w1=w.alloc (.cells M 26):=⟨_,rfl⟩
 rw [←hw1] at ha hb c0
 have HB:=zh hb;have MS:=zh ms;have AX:=zh ha;have BS:=zh hb.size
 have IT:=zh it
 clear it hb ms hM ha
 go_enter Tryz.func10,Tryz.ntmps10
 go_upto_region 1 with fail
 rw [←hw1]
 clear hw1
 clear c0
 go_wp2_with (refine wpList_load_all zr 26 _ zr w.heap.size zr _ Tryz.underlying26 zr M _ AX.out (by rw [MS.out];exact infoPS) ?_)
 refine (IT.out _).mono ?_
 rintro e w2 ⟨rfl,hb2⟩
 have B2:=zh hb2
 clear hb2
 go_wp2_with fail
 refine (WI.out _).mono ?_
 rintro e w3 ⟨rfl,rfl⟩
 by_cases hz:0≤z∧z < 0+(n:Int)
 ·rw [b_in 0 z n hz]
  go_wp2_with fail
  refine (WK.out _).mono ?_
  rintro e w3 ⟨rfl,rfl⟩
  by_cases hk:0≤k∧k < 0+2
  ·rw [b_in 0 k 2 hk]
   have hB:=HIF.out
   rw [if_pos ⟨⟨by omega,by omega⟩,by omega,by omega⟩] at hB
   have HR:=zh hB
   clear hB
   have z1:0≤z:=by omega
   have z2:z≤259:=by omega
   have k1:0≤k:=by omega
   have k2:k≤1:=by omega
   clear hz hk
   go_wp2_with fail
   go_ret
   exact ⟨by rw [HR.out];rfl,HB.out.trans (B2.out.mono BS.out)⟩
  ·rw [b_out 0 k 2 hk]
   have hB:=HIF.out
   rw [if_neg (fun h=>hk ⟨by omega,by omega⟩)] at hB
   have HR:=zh hB
   clear hB hk hz
   go_wp2_with fail
   go_ret
   exact ⟨by rw [HR.out];rfl,HB.out.trans (B2.out.mono BS.out)⟩
 ·rw [b_out 0 z n hz]
  have hB:=HIF.out
  rw [if_neg (fun h=>hz ⟨by omega,by omega⟩)] at hB
  have HR:=zh hB
  clear hB hz
  go_wp2_with fail
  go_ret
  exact ⟨by rw [HR.out];rfl,HB.out.trans (B2.out.mono BS.out)⟩
def LaEnd (p:Nat) (w:World) (e:Ending) (w':World):Prop:=∃ v,e=.returned v∧Below w.heap.size w w'∧(1≤p→∃ g C,v=.slice (some ⟨g,0,none⟩) (topn p+1) (topn p+1)∧LvR w' g p C)
theorem plevels_all (p:Nat) (w:World) (h1:p≤216):Calls Tryz.prog 82 #[.agg (psC p)] w (LaEnd p w):=by
 rcases Nat.eq_zero_or_pos p with h | h
 ·subst h
  refine (plevels_0 w).mono ?_
  rintro e w' ⟨rfl,hb⟩
  exact ⟨_,rfl,hb,fun h=>by omega⟩
 ·refine (plevels_any p w h h1).mono ?_
  rintro e w' ⟨g,C,rfl,hr,hb⟩
  exact ⟨_,rfl,hb,fun _=>⟨g,C,rfl,hr⟩⟩
theorem pparent_out (p:Nat) (z:Int) (w:World) (h1:p≤216) (h:¬ (0≤z∧z < (itn p:Int))):Calls Tryz.prog 107 #[.agg (psC p),.int .i64 z] w (TEnd (PZ p z) w):=by
 have hP:PZ p z=(0,0,false):=if_neg (by omega)
 have hl:lvlP p z=-1:=if_neg h
 rw [hP]
 have le:=fun w=>plevel_any p z w h1
 rw [hl] at le
 have lv:=fun w=>plevels_all p w h1
 clear hP hl h
 have ha:=at_new w (psC p) 26
 have hb:Below w.heap.size w (w.alloc (.cells (psC p) 26)):=(Below.refl _ _).alloc (Nat.le_refl _) _
 have ms:(psC p).size=1:=rfl
 have c0:(w.alloc (.cells (psC p) 26)).cell? ⟨w.heap.size,0,none⟩=some (.int .i64 (p:Int)):=((at_new w (psC p) _).cell 0).trans rfl
 obtain ⟨M,hM⟩:∃ M,M=psC p:=⟨_,rfl⟩
 rw [←hM] at lv le ha hb ms c0 ⊢
 obtain ⟨w1,hw1⟩:∃ w1,w1=w.alloc (.cells M 26):=⟨_,rfl⟩
 rw [←hw1] at ha hb c0
 have HB:=zh hb;have MS:=zh ms;have AX:=zh ha;have BS:=zh hb.size
 have LV:=zh lv
 have LE:=zh le
 clear lv le hb ms hM ha
 go_enter Tryz.func107,Tryz.ntmps107
 go_upto_region 1 with fail
 rw [←hw1]
 clear hw1
 clear c0
 refine wp_region_plan_in (fun x'=>Below w1.heap.size w1 x') (.take 0 (.take 2 (.take 3 (.sole 1 (.sole 4 (.take 5 (.take 6 .done))))))) (by kernel_rfl) (by kernel_rfl) (by kernel_rfl) (Below.refl _ _).drew ?_
 refine plan_row 26 _ w.heap.size _ M 26 zr zr zr ze (fun w' hw'=>AX.out.below hw' AX.out.lt) Tryz.underlying26 zr (by rw [MS.out];exact infoPS) ?_
 (simp only [Mem.zp,Mem.pb,Mem.pc])
 refine plan_row 26 _ w.heap.size _ M 26 zr zr zr ze (fun w' hw'=>AX.out.below hw' AX.out.lt) Tryz.underlying26 zr (by rw [MS.out];exact infoPS) ?_
 (simp only [Mem.zp,Mem.pb,Mem.pc])
 (first | refine Mem.pm1 ?_ | refine Mem.pm2 ?_ | refine Mem.pt ?_ | refine Mem.pf ?_)
 (simp only [Mem.zp,Mem.pb,Mem.pc])
 refine plan_call 82 _ _ _ (by kernel_rfl) zr zr zr (by first | exact Mem.ev_none _ | (simp only [List.map_toArray,List.map_cons,List.map_nil,Mem.ev_tmp,List.getD_cons_succ,List.getD_cons_zero] <;> rfl)) ?_
 refine (LV.out _).mono ?_
 rintro e w2 ⟨v2,rfl,hb2,_⟩
 have D2:Hid (Below w1.heap.size w1 w2):=zh (Below.trans (Below.refl _ _).drew hb2)
 clear hb2
 refine ⟨_,rfl,D2.out,?_⟩
 (simp only [Mem.zp,Mem.pb,Mem.pc])
 refine plan_call 90 _ _ _ (by kernel_rfl) zr zr zr (by first | exact Mem.ev_none _ | (simp only [List.map_toArray,List.map_cons,List.map_nil,Mem.ev_tmp,List.getD_cons_succ,List.getD_cons_zero] <;> rfl)) ?_
 refine (LE.out _).mono ?_
 rintro e w3 ⟨rfl,hb3⟩
 have D3:Hid (Below w1.heap.size w1 w3):=zh (D2.out.trans (hb3.mono D2.out.size))
 clear hb3
 refine ⟨_,rfl,D3.out,?_⟩
 (simp only [Mem.zp,Mem.pb,Mem.pc])
 iterate 2 ((first | refine Mem.pm1 ?_ | refine Mem.pm2 ?_ | refine Mem.pt ?_ | refine Mem.pf ?_);(simp only [Mem.zp,Mem.pb,Mem.pc]))
 refine plan_nil ?_
 go_wp2_with fail
 go_ret3
 exact ⟨rfl,HB.out.trans (D3.out.mono BS.out)⟩
theorem pparent_in (p i:Nat) (w:World) (h0:1≤p) (h1:p≤216) (h:i < itn p):Calls Tryz.prog 107 #[.agg (psC p),.int .i64 (i:Int)] w (TEnd (PZ p (i:Int)) w):=by
 have hl:lvlP p (i:Int)=((lev p i:Nat):Int):=by unfold lvlP;rw [if_pos ⟨by omega,by omega⟩,Int.toNat_natCast]
 have htop:=lev_top p i h0 h1
 have hlo:=lev_lo p i
 have h4:=itn_le p
 have hhi:=lev_hi p i (by omega)
 have hbig:=itn_le259 p h1
 have ht:=top_le p
 have hPZ:PZ p (i:Int)=if 0≤(i:Int)∧(i:Int)+1 < (itn p:Int) then (((stn p (lev p i+1)+(i - stn p (lev p i)) / 6:Nat):Int),(((i - stn p (lev p i)) % 6:Nat):Int),true) else (0,0,false):=by unfold PZ;rw [Int.toNat_natCast];rfl
 have hbd:=fun k hk=>stn_le p k hk h1
 have hle:∀ k,k < topn p+1→k≤topn p:=fun k hk=>by omega
 have hlt:lev p i≤topn p:=by
  rcases Nat.lt_or_ge (topn p) (lev p i) with a | a
  ·have:=stn_mono p (topn p+1) (lev p i) a (by have:=lev_le p i;omega)
   have e:itn p=stn p (topn p+1):=rfl
   omega
  ·exact a
 have le:=fun w=>plevel_any p (i:Int) w h1
 rw [hl] at le
 have lv:=fun w=>plevels_any p w h0 h1
 unfold LvEnd at lv
 obtain ⟨R,hR⟩:∃ R,R=PZ p (i:Int):=⟨_,rfl⟩
 rw [←hR] at hPZ ⊢
 obtain ⟨a,ha0⟩:∃ a,a=lev p i:=⟨_,rfl⟩
 rw [←ha0] at le htop hlo hPZ hlt hhi
 obtain ⟨f,hf⟩:∃ f,f=stn p a:=⟨_,rfl⟩
 obtain ⟨f2,hf2⟩:∃ f2,f2=stn p (a+1):=⟨_,rfl⟩
 rw [←hf] at hlo hPZ
 rw [←hf2] at hPZ hhi
 have hb1:=(hbd a (by omega)).1
 have hb2':f2≤600:=by
  rw [hf2]
  by_cases a3:a+1≤3
  ·have:=(hbd (a+1) a3).1;omega
  ·have:a=3:=by omega
   subst this
   have:=stn_lvn p 3 (by omega);have:=hbd 3 (by omega);omega
 rw [←hf] at hb1
 have hcell:∀ wx g C,LvR wx g p C→wx.cell? ⟨g,a*2,none⟩=some (.int .i64 (f:Int)):=fun wx g C hr=>by rw [hf];exact hr.cell0 hlt
 have hcell2:a+1≤topn p→∀ wx g C,LvR wx g p C→wx.cell? ⟨g,(a+1)*2,none⟩=some (.int .i64 (f2:Int)):=fun h wx g C hr=>by rw [hf2];exact hr.cell0 h
 obtain ⟨t,htt⟩:∃ t,t=topn p:=⟨_,rfl⟩
 rw [←htt] at lv htop hlt ht hcell2
 have HC1:=zh hcell;have HC2:=zh hcell2
 have HPZ:=zh hPZ
 have htop2:(i+1 < itn p) ↔ a < t:=⟨fun x=>(htop.mp x).2,fun x=>htop.mpr ⟨h,x⟩⟩
 have HT:=zh htop2
 clear hl htop h4 hPZ hbd hle hcell hcell2 hR ha0 hf hf2 htt htop2
 have ha:=at_new w (psC p) 26
 have hb:Below w.heap.size w (w.alloc (.cells (psC p) 26)):=(Below.refl _ _).alloc (Nat.le_refl _) _
 have ms:(psC p).size=1:=rfl
 have c0:(w.alloc (.cells (psC p) 26)).cell? ⟨w.heap.size,0,none⟩=some (.int .i64 (p:Int)):=((at_new w (psC p) _).cell 0).trans rfl
 obtain ⟨M,hM⟩:∃ M,M=psC p:=⟨_,rfl⟩
 rw [←hM] at lv le ha hb ms c0 ⊢
 obtain ⟨w1,hw1⟩:∃ w1,w1=w.alloc (.cells M 26):=⟨_,rfl⟩
 rw [←hw1] at ha hb c0
 have HB:=zh hb;have MS:=zh ms;have AX:=zh ha;have BS:=zh hb.size
 have LV:=zh lv
 have LE:=zh le
 clear lv le hb ms hM ha
 go_enter Tryz.func107,Tryz.ntmps107
 go_upto_region 1 with fail
 rw [←hw1]
 clear hw1
 clear c0
 refine wp_region_plan_in (fun x'=>Below w1.heap.size w1 x') (.take 0 (.take 2 (.take 3 (.sole 1 (.sole 4 (.take 5 (.take 6 .done))))))) (by kernel_rfl) (by kernel_rfl) (by kernel_rfl) (Below.refl _ _).drew ?_
 refine plan_row 26 _ w.heap.size _ M 26 zr zr zr ze (fun w' hw'=>AX.out.below hw' AX.out.lt) Tryz.underlying26 zr (by rw [MS.out];exact infoPS) ?_
 (simp only [Mem.zp,Mem.pb,Mem.pc])
 refine plan_row 26 _ w.heap.size _ M 26 zr zr zr ze (fun w' hw'=>AX.out.below hw' AX.out.lt) Tryz.underlying26 zr (by rw [MS.out];exact infoPS) ?_
 (simp only [Mem.zp,Mem.pb,Mem.pc])
 (first | refine Mem.pm1 ?_ | refine Mem.pm2 ?_ | refine Mem.pt ?_ | refine Mem.pf ?_)
 (simp only [Mem.zp,Mem.pb,Mem.pc])
 refine plan_call 82 _ _ _ (by kernel_rfl) zr zr zr (by first | exact Mem.ev_none _ | (simp only [List.map_toArray,List.map_cons,List.map_nil,Mem.ev_tmp,List.getD_cons_succ,List.getD_cons_zero] <;> rfl)) ?_
 refine (LV.out _).mono ?_
 rintro e w2 ⟨g,C,rfl,hr,hb2⟩
 have D2:Hid (Below w1.heap.size w1 w2):=zh (Below.trans (Below.refl _ _).drew hb2)
 have RL:=zh hr
 clear hb2 hr
 refine ⟨_,rfl,D2.out,?_⟩
 (simp only [Mem.zp,Mem.pb,Mem.pc])
 refine plan_call 90 _ _ _ (by kernel_rfl) zr zr zr (by first | exact Mem.ev_none _ | (simp only [List.map_toArray,List.map_cons,List.map_nil,Mem.ev_tmp,List.getD_cons_succ,List.getD_cons_zero] <;> rfl)) ?_
 refine (LE.out _).mono ?_
 rintro e w3 ⟨rfl,hb3⟩
 have D3:Hid (Below w1.heap.size w1 w3):=zh (D2.out.trans (hb3.mono D2.out.size))
 have RL3:=zh (RL.out.below hb3)
 clear hb3 RL
 refine ⟨_,rfl,D3.out,?_⟩
 (simp only [Mem.zp,Mem.pb,Mem.pc])
 iterate 2 ((first | refine Mem.pm1 ?_ | refine Mem.pm2 ?_ | refine Mem.pt ?_ | refine Mem.pf ?_);(simp only [Mem.zp,Mem.pb,Mem.pc]))
 refine plan_nil ?_
 by_cases hat:a < t
 ·have c1:=HC1.out _ _ _ RL3.out
  have c2:=HC2.out hat _ _ _ RL3.out
  have HR:=HPZ.out
  rw [if_pos ⟨by omega,by have:=HT.out.mpr hat;omega⟩] at HR
  have HRR:=zh HR
  have a1:¬ (a:Int)=-1:=by omega
  have a2:¬ (a:Int)=(t:Int):=by omega
  have a3:a < t+1:=by omega
  have a4:a+1 < t+1:=by omega
  have a5:(a:Int) < (t:Int)+1:=by omega
  have a6:(a:Int)+1 < (t:Int)+1:=by omega
  have e6:((i:Int) - (f:Int)) / 6=(((i - f) / 6:Nat):Int):=by omega
  have e7:((i:Int) - (f:Int)) % 6=(((i - f) % 6:Nat):Int):=by omega
  have E6:=zh e6;have E7:=zh e7
  clear HR e6 e7 HPZ HC1 HC2 HT
  go_upto_region 2 with fail
  go_cut [23] (fun x wx=>x=.bool false∧w3=wx)
  case first=>
   have b1:((a:Int) == -1)=false:=beq_eq_false_iff_ne.mpr a1
   have b2:((a:Int) == (t:Int))=false:=beq_eq_false_iff_ne.mpr a2
   have B1:=zh b1;have B2':=zh b2
   clear c1 c2 b1 b2
   go_wp2_with fail
   go_meet
   exact ⟨by simp only [B1.out,B2'.out,Bool.or_self],rfl⟩
  obtain ⟨rfl,hwx⟩:=hcut
  subst hwx
  go_wp2_with fail
  go_ret3
  exact ⟨by rw [HRR.out,Int.natCast_add,←E6.out,←E7.out];rfl,HB.out.trans (D3.out.mono BS.out)⟩
 ·have HR:=HPZ.out
  rw [if_neg (fun hh=>hat (HT.out.mp (by omega)))] at HR
  have HRR:=zh HR
  have a1:¬ (a:Int)=-1:=by omega
  have a2:a=t:=by omega
  subst a2
  clear HR HPZ HC1 HC2 HT
  go_wp2_with fail
  go_ret3
  exact ⟨by rw [HRR.out];rfl,HB.out.trans (D3.out.mono BS.out)⟩
theorem pparent_any (p:Nat) (z:Int) (w:World) (h1:p≤216):Calls Tryz.prog 107 #[.agg (psC p),.int .i64 z] w (TEnd (PZ p z) w):=by
 by_cases h:0≤z∧z < (itn p:Int)
 ·obtain ⟨i,rfl⟩:∃ i:Nat,z=(i:Int):=⟨z.toNat,by omega⟩
  have h0:1≤p:=by
   rcases Nat.eq_zero_or_pos p with e | e
   ·subst e;rw [itn_0] at h;omega
   ·exact e
  exact pparent_in p i w h0 h1 (by omega)
 ·exact pparent_out p z w h1 h
theorem plan_min {P:Program} {ops:Array Oper} {Q:Exit→Act→World→Prop} {S:World→Prop} {w:World} {a:Act} {op:Oper} {i:Nat} {r:Plan} (x y:Operand) (t1 t2:TypeId) (m n v:Int) (ho:ops.toList[i]?=some op) (hw:Region.wanted op (yielded ops a.tmps)=true) (hop:op.op=.call { callee:=.builtin .min,args:=#[x,y],argTypes:=#[t1,t2] })
 (hx:a.eval x=.int .i64 m) (hy:a.eval y=.int .i64 n) (hv:v=if n < m then n else m) (h:wpPlan P ops Q S r (a.put op.dst (.int .i64 v)) w):wpPlan P ops Q S (.take i r) a w:=
 plan_take _ ho hw (fun w' _=>by
  obtain ⟨dst,op,type,pos,after,guard⟩:=op
  simp only at hop
  subst hop
  rw [BigFrame.execOp_builtin]
  simp [hx,hy,BigFrame.builtin_min,run_min_int2,hv]) h
theorem elemIntR:(Tryz.prog.info? 3).map (fun i=>(i.zero,i.size,i.bytes))=some (some (.int .i64 0),1,8):=by kernel_rfl
def OwnI (w:World) (L:List Int) (e:Ending) (w':World):Prop:=∃ v,e=.returned v∧OwnV w' w.heap.size 3 v (iz L)∧Below w.heap.size w w'
theorem OwnI.I {w w':World} {L:List Int} {e:Ending} (h:OwnI w L e w'):IEnd w L e w':=let ⟨v,e,ho,hb⟩:=h;⟨v,e,ownV_sli ho,hb⟩
theorem pbelow_own (p a i b:Nat) (w:World) (h0:1≤p) (h1:p≤216) (ha:a≤topn p) (hi:i < lvn p a) (hba:b≤a):Calls Tryz.prog 91 #[.agg (psC p),.int .i64 ((stn p a+i:Nat):Int),.int .i64 (a:Int),.int .i64 (b:Int)] w (OwnI w (belL p a i b)):=by
 have ht:=top_le p
 have has:=fun j=>atB_succ i j
 have hes:=fun j hj=>enN_succ p a i j (by omega) hj
 have hlt:=at_lt p a i (by omega) hi
 have hen:=fun j=>en_le p a i j (by omega) h1
 have lv:=fun w=>plevels_any p w h0 h1
 unfold LvEnd at lv
 have hbd:=fun k hk=>stn_le p k hk h1
 have hc0:∀ wx g C,LvR wx g p C→wx.cell? ⟨g,a*2,none⟩=some (.int .i64 (stn p a:Nat)):=fun wx g C hr=>hr.cell0 ha
 have hcb:∀ wx g C,LvR wx g p C→wx.cell? ⟨g,b*2,none⟩=some (.int .i64 (stn p b:Nat)):=fun wx g C hr=>hr.cell0 (by omega)
 have hcn:∀ k,k < a→∀ wx g C,LvR wx g p C→wx.cell? ⟨g,k*2+1,none⟩=some (.int .i64 (lvn p k:Nat)):=fun k hk wx g C hr=>hr.cell1 (by omega)
 have hL:belL p a i b=bel (stn p b) (atB i (a - b)) (enN p a i (a - b) - atB i (a - b)):=rfl
 obtain ⟨L,hLL⟩:∃ L,L=belL p a i b:=⟨_,rfl⟩
 rw [←hLL] at hL ⊢
 obtain ⟨AT,hAT⟩:∃ AT,AT=atB i:=⟨_,rfl⟩
 obtain ⟨EN,hEN⟩:∃ EN,EN=enN p a i:=⟨_,rfl⟩
 rw [←hAT] at has hlt hL
 rw [←hEN] at hes hlt hen hL
 have a0:AT 0=i:=by rw [hAT];unfold atB;rw [Nat.pow_zero,Nat.mul_one]
 have e0:EN 0=i+1:=by rw [hEN];unfold enN;rw [Nat.pow_zero,Nat.mul_one,Nat.sub_zero];omega
 have hfa:=(hbd a (by omega)).1
 have hfb:=(hbd b (by omega)).1
 have hla:=(hbd a (by omega)).2
 obtain ⟨f,hf⟩:∃ f,f=stn p a:=⟨_,rfl⟩
 obtain ⟨fb,hfb0⟩:∃ fb,fb=stn p b:=⟨_,rfl⟩
 rw [←hf] at hc0 hfa ⊢
 rw [←hfb0] at hcb hfb hL
 obtain ⟨z,hz⟩:∃ z,z=f+i:=⟨_,rfl⟩
 rw [←hz]
 have hza:z≤600:=by omega
 obtain ⟨t,htt⟩:∃ t,t=topn p:=⟨_,rfl⟩
 rw [←htt] at ht ha lv
 have hat:a < t+1:=by omega
 have hbt:b < t+1:=by omega
 have hzi:(z:Int) - (f:Int)=((AT 0:Nat):Int):=by rw [a0];omega
 have hzi2:((AT 0:Nat):Int)+1=((EN 0:Nat):Int):=by rw [a0,e0];omega
 have AS:=zh has;have ES:=zh hes;have HLT:=zh hlt;have HEN:=zh hen;have C0:=zh hc0;have CB:=zh hcb;have CN:=zh hcn;have HL:=zh hL;have BD:=zh hbd;have ZI:=zh hzi;have ZI2:=zh hzi2
 have hi216:i≤216:=by omega
 have HFZ:=zh (show f≤z by omega)
 obtain ⟨i1,hi1,hz1,hs1,hb1⟩:=info_parts elemIntR
 have I1:=zh hi1;have Z1:=zh hz1;have S1:=zh hs1;have B1:=zh hb1
 clear has hes hlt hen hc0 hcb hcn hL hLL hAT hEN a0 e0 hf hfb0 hz htt hi hla hbd hzi hzi2 hi1 hz1 hs1 hb1
 have ha:=at_new w (psC p) 26
 have hb:Below w.heap.size w (w.alloc (.cells (psC p) 26)):=(Below.refl _ _).alloc (Nat.le_refl _) _
 have ms:(psC p).size=1:=rfl
 have c0:(w.alloc (.cells (psC p) 26)).cell? ⟨w.heap.size,0,none⟩=some (.int .i64 (p:Int)):=((at_new w (psC p) _).cell 0).trans rfl
 obtain ⟨M,hM⟩:∃ M,M=psC p:=⟨_,rfl⟩
 rw [←hM] at lv ha hb ms c0 ⊢
 obtain ⟨w1,hw1⟩:∃ w1,w1=w.alloc (.cells M 26):=⟨_,rfl⟩
 rw [←hw1] at ha hb c0
 have HB:=zh hb;have MS:=zh ms;have AX:=zh ha;have BS:=zh hb.size
 have LV:=zh lv
 clear lv hb ms hM ha
 go_enter Tryz.func91,Tryz.ntmps91
 go_upto_region 1 with fail
 rw [←hw1]
 clear hw1
 clear c0
 go_upto_region 2 with (first
  | (refine wpList_load_all zr 26 _ zr w.heap.size zr _ Tryz.underlying26 zr M _ AX.out (by rw [MS.out];exact infoPS) ?_)
  | (go_at_call 82;refine (LV.out _).mono ?_;rintro e w2 ⟨g,C,rfl,hr,hb2⟩;have B2:=zh hb2;have R2:=zh hr;clear hb2 hr))
 have c0:=C0.out _ _ _ R2.out
 have hfz:=HFZ.out
 have hE0:=HEN.out 0
 have hA0:=HLT.out 0 (by omega)
 go_upto_region 3 with fail
 clear c0
 rw [ZI.out]
 go_upto_region 4 with fail
 rw [ZI2.out]
 go_wp2_with fail
 go_loopw [10,11,12] (fun va ve vl wr=>∃ j:Nat,∃ l:Int,j≤a - b∧l=(a:Int) - 1 - (j:Int)∧va=.int .i64 (AT j:Nat)∧ve=.int .i64 (EN j:Nat)∧vl=.int .i64 l∧Below w2.heap.size w2 wr) (fun _ _ vl _=>(intOf vl+1 - b).toNat)
 case atStart=>exact ⟨0,_,by omega,by omega,rfl,rfl,rfl,Below.refl _ _⟩
 case round=>
  obtain ⟨j,l,hj,hl,rfl,rfl,rfl,hbw⟩:=hrel
  have BW:=zh hbw;have RW:=zh (R2.out.below hbw)
  clear hbw
  have hEN:=HEN.out j
  have hLT:=HLT.out j (by omega)
  by_cases hlb:(b:Int)≤l
  ·obtain ⟨l0,rfl⟩:∃ l0:Nat,l=(l0:Int):=⟨l.toNat,by omega⟩
   have hl0:l0 < a:=by omega
   have cn:=CN.out l0 hl0 _ _ _ RW.out
   have hbn:=(BD.out l0 (by omega)).2
   have hE1:=ES.out j (by omega)
   have hA1:=AS.out j
   rw [show a - (j+1)=l0 by omega] at hE1
   obtain ⟨m,hm⟩:∃ m,m=lvn p l0:=⟨_,rfl⟩
   rw [←hm] at cn hbn hE1
   have CNH:Hid (wr.cell? ⟨g,0+l0*2+1,none⟩=some (.int .i64 (m:Int))):=zh (by rw [Nat.zero_add];exact cn)
   have LTG:=zh RW.out.row.lt
   have HE1:=zh hE1;have HA1:=zh hA1;have HLL:=zh hl
   clear hm hE1 hA1 hl
   have hl3:l0 < t+1:=by omega
   go_upto_region 7 with fail
   refine wp_region_plan_in (fun x'=>Below wr.heap.size wr x') (.take 0 (.take 1 (.take 2 (.take 3 (.take 4 (.take 5 (.take 6 (.take 7 (.take 8 (.take 9 (.take 10 (.take 11 .done)))))))))))) (by kernel_rfl) (by kernel_rfl) (by kernel_rfl) (Below.refl _ _).drew ?_
   (first | refine Mem.pm1 ?_ | refine Mem.pm2 ?_ | refine Mem.pt ?_ | refine Mem.pf ?_)
   (simp only [Mem.zp,Mem.pb,Mem.pc])
   refine plan_bin _ _ _ _ _ _ _ _ zr zr zr ze ze (fun wx=>o_imul _ _ _ _ ((AT j:Nat):Int) 6 (((AT j)*6:Nat):Int) (by omega) (by omega) (by omega) wx) ?_
   (simp only [Mem.zp,Mem.pb,Mem.pc])
   (first | refine Mem.pm1 ?_ | refine Mem.pm2 ?_ | refine Mem.pt ?_ | refine Mem.pf ?_)
   (simp only [Mem.zp,Mem.pb,Mem.pc])
   refine plan_bin _ _ _ _ _ _ _ _ zr zr zr ze ze (fun wx=>o_imul _ _ _ _ ((EN j:Nat):Int) 6 (((EN j)*6:Nat):Int) (by omega) (by omega) (by omega) wx) ?_
   (simp only [Mem.zp,Mem.pb,Mem.pc])
   iterate 2 ((first | refine Mem.pm1 ?_ | refine Mem.pm2 ?_ | refine Mem.pt ?_ | refine Mem.pf ?_);(simp only [Mem.zp,Mem.pb,Mem.pc]))
   refine plan_index_z 161 164 _ _ g ((0)) (t+1) (t+1) 2 l0 zr zr zr ze ze (by omega) Tryz.underlying161 (by kernel_rfl) ?_
   (simp only [Mem.zp,Mem.pb,Mem.pc])
   refine plan_field 164 _ 1 g ((0)+l0*2) ⟨g,(0)+l0*2+1,none⟩ zr zr zr ze (fun wx=>by go_simp) ?_
   (simp only [Mem.zp,Mem.pb,Mem.pc])
   refine plan_cell 3 _ _ (.int .i64 (m:Int)) _ zr zr zr ze (fun w' hw'=>(Below.cell hw' (p:=⟨g,0+l0*2+1,none⟩) LTG.out).trans CNH.out) Tryz.underlying3 zr ?_
   (simp only [Mem.zp,Mem.pb,Mem.pc])
   refine plan_min _ _ _ _ ((EN j*6:Nat):Int) (m:Int) (((min (EN j*6) m:Nat)):Int) zr zr zr ze ze (by omega) ?_
   (simp only [Mem.zp,Mem.pb,Mem.pc])
   iterate 2 ((first | refine Mem.pm1 ?_ | refine Mem.pm2 ?_ | refine Mem.pt ?_ | refine Mem.pf ?_);(simp only [Mem.zp,Mem.pb,Mem.pc]))
   refine plan_nil ?_
   rw [←HE1.out,←HA1.out]
   have BD9:Hid (Below w2.heap.size w2 wr.drew):=zh BW.out.drew
   clear cn
   go_wp2_with fail
   go_roundw
   case rel=>exact ⟨j+1,(l0:Int) - 1,by have:=HLL.out;omega,by rw [HLL.out];omega,rfl,rfl,by go_num,BD9.out⟩
   case measure=>simp [intOf];omega
  ·have hjab:j=a - b:=by omega
   subst hjab
   have cb:=CB.out _ _ _ RW.out
   have hn:((EN (a - b):Nat):Int) - ((AT (a - b):Nat):Int)=((EN (a - b) - AT (a - b):Nat):Int):=by omega
   have HLX:=HL.out
   obtain ⟨e,he⟩:∃ e,e=EN (a - b):=⟨_,rfl⟩
   obtain ⟨q,hq⟩:∃ q,q=AT (a - b):=⟨_,rfl⟩
   rw [←he,←hq] at hn HLX
   rw [←he] at hEN hLT ⊢
   rw [←hq] at hLT ⊢
   have HN:=zh hn;have HLL:=zh HLX
   clear hn HLX he hq hl hj
   have hqe:(q:Int)≤(e:Int):=by omega
   go_wp2_with (refine wpList_make_own _ zr _ _ 61 zr w2.heap.size 3 i1 (.int .i64 0) 1 Tryz.underlying61 I1.out Z1.out S1.out .i64 .i64 ((e:Int) - (q:Int)) (e - q) zr zr HN.out (by rw [B1.out];omega) (by simp [maxLen];omega) BW.out.size ?_;intro w3 ho3 hg3;have O3:Hid (OwnV w3 w2.heap.size 3 (.slice (some ⟨wr.heap.size,0,none⟩) 0 (e - q)) []):=zh ho3;have B3:Hid (Below w2.heap.size w2 w3):=zh (BW.out.grown hg3 BW.out.size (fun k e=>by cases e));clear ho3 hg3)
   clear cb
   go_loopw [10,13] (fun va vp wx=>∃ x:Nat,x≤e - q∧va=.int .i64 ((q+x:Nat):Int)∧OwnV wx w2.heap.size 3 vp (iz (bel fb q x))∧Below w2.heap.size w2 wx) (fun va _ _=>e - (intOf va).toNat)
   case atStart=>exact ⟨0,by omega,rfl,O3.out,B3.out⟩
   case round=>
    obtain ⟨x,hx,rfl,ho,hbx⟩:=hrel
    have OW:=zh ho;have BX:=zh hbx;have RX:=zh (R2.out.below hbx)
    clear ho hbx
    by_cases hlt:q+x < e
    ·have hlt2:((q+x:Nat):Int) < (e:Int):=by omega
     have cb:=CB.out _ _ _ RX.out
     have HLN:Hid ((iz (bel fb q x)).length=x):=zh (by rw [iz_length,bel_length])
     have HSN:=zh (bel_succ fb q x)
     obtain ⟨y,hy⟩:∃ y,y=q+x:=⟨_,rfl⟩
     rw [←hy] at hlt hlt2 HSN ⊢
     have HY:=zh hy
     clear hy
     go_wp2_with (at_builtin;refine wpList_append_lit zr _ _ 61 zr (.int .i64 ((fb:Int)+(y:Int))) (.int .i64 0) 8 elemInt zr zr OW.out zr zr (by rw [HLN.out];omega) (by rw [HLN.out];omega) (BX.out.size) ?_;intro v6 w6 ho6 _ hb6 _;have O6:Hid (OwnV w6 w2.heap.size 3 v6 (iz (bel fb q (x+1)))):=zh (by rw [HSN.out,iz_snoc,Int.natCast_add];exact ho6);have B6:Hid (Below w2.heap.size w2 w6):=zh (BX.out.trans hb6);clear ho6 hb6)
     go_roundw
     case rel=>exact ⟨x+1,by have:=HY.out;omega,congrArg (Value.int .i64) (by rw [HY.out];omega),O6.out,B6.out⟩
     case measure=>simp [intOf];omega
    ·have hxe:x=e - q:=by omega
     have hge:¬ ((q+x:Nat):Int) < (e:Int):=by omega
     have HX:=zh hxe
     clear hxe
     go_wp2_with fail
     go_ret
     exact ⟨_,rfl,by rw [HLL.out,←HX.out];exact ownsRow_base OW.out (Nat.le_trans BS.out B2.out.size),HB.out.trans ((B2.out.trans (BX.out.mono B2.out.size)).mono BS.out)⟩
theorem lev_some (p:Nat) (z:Int) (h:0≤z∧z < (itn p:Int)):1≤p∧p≤216→∃ q a i:Nat,z=(q:Int)∧q < itn p∧a=lev p q∧a≤topn p∧i < lvn p a∧q=stn p a+i:=by
 rintro ⟨h0,h1⟩
 obtain ⟨q,rfl⟩:∃ q:Nat,z=(q:Int):=⟨z.toNat,by omega⟩
 have h4:=itn_le p
 have lo:=lev_lo p q
 have hi:=lev_hi p q (by omega)
 have l3:=lev_le p q
 have s:=stn_lvn p (lev p q) l3
 have e:itn p=stn p (topn p+1):=rfl
 have hlt:lev p q≤topn p:=by
  rcases Nat.lt_or_ge (topn p) (lev p q) with a | a
  ·have:=stn_mono p (topn p+1) (lev p q) a (by omega)
   omega
  ·exact a
 exact ⟨q,lev p q,q - stn p (lev p q),rfl,by omega,rfl,hlt,by omega,by omega⟩
theorem itn_pos (p:Nat) (z:Int) (h:0≤z∧z < (itn p:Int)):1≤p:=by
 rcases Nat.eq_zero_or_pos p with e | e
 ·subst e;rw [itn_0] at h;omega
 ·exact e
theorem pkids_out (p:Nat) (z l:Int) (w:World) (h1:p≤216) (hl:lvlP p z=l) (h:l≤0):Calls Tryz.prog 55 #[.agg (psC p),.int .i64 z] w (OwnI w []):=by
 have le:=fun w=>plevel_any p z w h1
 rw [hl] at le
 clear hl
 have ha:=at_new w (psC p) 26
 have hb:Below w.heap.size w (w.alloc (.cells (psC p) 26)):=(Below.refl _ _).alloc (Nat.le_refl _) _
 have ms:(psC p).size=1:=rfl
 have c0:(w.alloc (.cells (psC p) 26)).cell? ⟨w.heap.size,0,none⟩=some (.int .i64 (p:Int)):=((at_new w (psC p) _).cell 0).trans rfl
 obtain ⟨M,hM⟩:∃ M,M=psC p:=⟨_,rfl⟩
 rw [←hM] at le ha hb ms c0 ⊢
 obtain ⟨w1,hw1⟩:∃ w1,w1=w.alloc (.cells M 26):=⟨_,rfl⟩
 rw [←hw1] at ha hb c0
 have HB:=zh hb;have MS:=zh ms;have AX:=zh ha;have BS:=zh hb.size
 have LE:=zh le
 clear le hb ms hM ha
 go_enter Tryz.func55,Tryz.ntmps55
 go_upto_region 1 with fail
 rw [←hw1]
 clear hw1
 clear c0
 go_wp2_with (refine wpList_load_all zr 26 _ zr w.heap.size zr _ Tryz.underlying26 zr M _ AX.out (by rw [MS.out];exact infoPS) ?_)
 refine (LE.out _).mono ?_
 rintro e w2 ⟨rfl,hb2⟩
 have B2:=zh hb2
 have A2:=zh (AX.out.below hb2 AX.out.lt)
 clear hb2
 go_wp2_with fail
 go_ret
 exact ⟨_,rfl,OwnV.nil _ _ _,HB.out.trans (B2.out.mono BS.out)⟩
theorem pkids_in (p i:Nat) (a:Nat) (w:World) (h0:1≤p) (h1:p≤216) (ha:a+1≤topn p) (hi:i < lvn p (a+1)) (hl:lvlP p ((stn p (a+1)+i:Nat):Int)=((a+1:Nat):Int)):Calls Tryz.prog 55 #[.agg (psC p),.int .i64 ((stn p (a+1)+i:Nat):Int)] w (OwnI w (belL p (a+1) i a)):=by
 have le:=fun w=>plevel_any p ((stn p (a+1)+i:Nat):Int) w h1
 rw [hl] at le
 have be:=fun w=>pbelow_own p (a+1) i a w h0 h1 ha hi (by omega)
 have ht:=top_le p
 obtain ⟨L,hL⟩:∃ L,L=belL p (a+1) i a:=⟨_,rfl⟩
 rw [←hL] at be ⊢
 obtain ⟨z,hz⟩:∃ z:Int,z=((stn p (a+1)+i:Nat):Int):=⟨_,rfl⟩
 rw [←hz] at le be ⊢
 have ha4:a≤4:=by omega
 obtain ⟨a1,ha1⟩:∃ a1,a1=a+1:=⟨_,rfl⟩
 have hsub:(a1:Int) - 1=(a:Int):=by omega
 have hpos:¬ (a1:Int)≤0:=by omega
 have ha5:a1≤5:=by omega
 rw [←ha1] at le be
 have HSUB:=zh hsub
 clear hL hz hl ha hi ha1 hsub
 have ha:=at_new w (psC p) 26
 have hb:Below w.heap.size w (w.alloc (.cells (psC p) 26)):=(Below.refl _ _).alloc (Nat.le_refl _) _
 have ms:(psC p).size=1:=rfl
 have c0:(w.alloc (.cells (psC p) 26)).cell? ⟨w.heap.size,0,none⟩=some (.int .i64 (p:Int)):=((at_new w (psC p) _).cell 0).trans rfl
 obtain ⟨M,hM⟩:∃ M,M=psC p:=⟨_,rfl⟩
 rw [←hM] at le be ha hb ms c0 ⊢
 obtain ⟨w1,hw1⟩:∃ w1,w1=w.alloc (.cells M 26):=⟨_,rfl⟩
 rw [←hw1] at ha hb c0
 have HB:=zh hb;have MS:=zh ms;have AX:=zh ha;have BS:=zh hb.size
 have LE:=zh le
 have BE:=zh be
 clear le be hb ms hM ha
 go_enter Tryz.func55,Tryz.ntmps55
 go_upto_region 1 with fail
 rw [←hw1]
 clear hw1
 clear c0
 go_wp2_with (refine wpList_load_all zr 26 _ zr w.heap.size zr _ Tryz.underlying26 zr M _ AX.out (by rw [MS.out];exact infoPS) ?_)
 refine (LE.out _).mono ?_
 rintro e w2 ⟨rfl,hb2⟩
 have B2:=zh hb2
 have A2:=zh (AX.out.below hb2 AX.out.lt)
 clear hb2
 go_wp2_with (refine wpList_load_all zr 26 _ zr w.heap.size zr _ Tryz.underlying26 zr M _ A2.out (by rw [MS.out];exact infoPS) ?_)
 rw [HSUB.out]
 refine (BE.out _).mono ?_
 rintro e w3 ⟨v,rfl,hs,hb3⟩
 have B3:Hid (Below w1.heap.size w1 w3):=zh (B2.out.trans (hb3.mono B2.out.size))
 have SV:=zh hs
 clear hs hb3
 go_wp2_with fail
 go_ret
 exact ⟨_,rfl,ownsRow_base SV.out (Nat.le_trans BS.out B2.out.size),HB.out.trans (B3.out.mono BS.out)⟩
theorem pkids_own (p:Nat) (z:Int) (w:World) (h1:p≤216):Calls Tryz.prog 55 #[.agg (psC p),.int .i64 z] w (OwnI w (KZ p z)):=by
 by_cases h:0≤z∧z < (itn p:Int)
 ·have h0:=itn_pos p z h
  obtain ⟨q,a,i,rfl,hq,ha,hat,hi,he⟩:=lev_some p z h ⟨h0,h1⟩
  have hl:lvlP p (q:Int)=((a:Nat):Int):=by unfold lvlP;rw [if_pos h,Int.toNat_natCast,ha]
  rcases Nat.eq_zero_or_pos a with e | e
  ·have hqp:¬ p≤q:=fun hp=>by have:=lev_node' p q hp;omega
   rw [KZ_nat p q hq,if_neg hqp]
   exact pkids_out p q (a:Int) w h1 hl (by omega)
  ·obtain ⟨b,rfl⟩:∃ b,a=b+1:=⟨a - 1,by omega⟩
   have hqp:p≤q:=by
    have:=stn_mono p 1 (b+1) (by omega) (by have:=top_le p;omega)
    have e1:stn p 1=p:=rfl
    omega
   have hk:=bel_kids p q b h0 h1 hqp hq ha.symm
   rw [show q - stn p (b+1)=i by omega] at hk
   rw [←hk]
   have hr:=pkids_in p i b w h0 h1 hat hi (by rw [←he];exact hl)
   rw [←he] at hr
   exact hr
 ·have hn:KZ p z=[]:=if_neg (by
   rintro ⟨a,b⟩
   exact h ⟨by omega,b⟩)
  rw [hn]
  exact pkids_out p z (-1) w h1 (if_neg h) (by omega)
theorem pkids_any (p:Nat) (z:Int) (w:World) (h1:p≤216):Calls Tryz.prog 55 #[.agg (psC p),.int .i64 z] w (IEnd w (KZ p z)):=
 (pkids_own p z w h1).mono fun _ _ h=>h.I
theorem own_lit1 {w:World} {B:Nat} (x:Int) (hB:B≤w.heap.size):OwnV (w.alloc (.cells #[.int .i64 x] 3)) B 3 (.slice (some ⟨w.heap.size,0,none⟩) 1 1) (iz [x]):=
 World.ownsRow_lit w #[.int .i64 x] 1 hB (by decide) zr
theorem ppath_out (p:Nat) (z:Int) (w:World) (h1:p≤216) (h:¬ (0≤z∧z < (p:Int))):Calls Tryz.prog 83 #[.agg (psC p),.int .i64 z] w (IEnd w []):=by
 have WI:=zh (fun w=>within_any z 0 (p:Int) w (by omega) (by omega) (by omega))
 have NZ:Hid (decide (0≤z∧z < 0+(p:Int))=false):=zh (decide_eq_false (fun hh=>h ⟨by omega,by omega⟩))
 clear h
 have ha:=at_new w (psC p) 26
 have hb:Below w.heap.size w (w.alloc (.cells (psC p) 26)):=(Below.refl _ _).alloc (Nat.le_refl _) _
 have ms:(psC p).size=1:=rfl
 have c0:(w.alloc (.cells (psC p) 26)).cell? ⟨w.heap.size,0,none⟩=some (.int .i64 (p:Int)):=((at_new w (psC p) _).cell 0).trans rfl
 obtain ⟨M,hM⟩:∃ M,M=psC p:=⟨_,rfl⟩
 rw [←hM] at ha hb ms c0 ⊢
 obtain ⟨w1,hw1⟩:∃ w1,w1=w.alloc (.cells M 26):=⟨_,rfl⟩
 rw [←hw1] at ha hb c0
 have HB:=zh hb;have MS:=zh ms;have AX:=zh ha;have BS:=zh hb.size
 clear hb ms hM ha
 go_enter Tryz.func83,Tryz.ntmps83
 go_upto_region 1 with fail
 rw [←hw1]
 clear hw1
 go_wp2_with fail
 refine (WI.out _).mono ?_
 rintro e w3 ⟨rfl,rfl⟩
 rw [NZ.out]
 clear c0
 go_wp2_with fail
 go_ret
 exact ⟨_,rfl,SlI.nil _,HB.out⟩
theorem ppath_in (p x:Nat) (w:World) (h0:1≤p) (h1:p≤216) (hx:x < p):Calls Tryz.prog 83 #[.agg (psC p),.int .i64 (x:Int)] w (IEnd w (pathZ p x (topn p+1))):=by
 have WI:=zh (fun w=>within_any (x:Int) 0 (p:Int) w (by omega) (by omega) (by omega))
 have YZ:Hid (decide (0≤(x:Int)∧(x:Int) < 0+(p:Int))=true):=zh (decide_eq_true ⟨by omega,by omega⟩)
 have pr:=fun z w=>pparent_any p z w h1
 have hgo:=fun k hk=>itp_par p x k h0 h1 hx hk
 have hend:=itp_end p x h0 h1 hx
 have ht:=top_le p
 have hs:=fun n=>pathZ_succ p x n
 have hln:=fun n=>pathZ_length p x n
 obtain ⟨t,htt⟩:∃ t,t=topn p:=⟨_,rfl⟩
 rw [←htt] at ht hend hgo ⊢
 have GO:=zh hgo;have EN:=zh hend;have SN:=zh hs;have LN:=zh hln
 have hz0:itp p x 0=x:=rfl
 have HZ:=zh hz0
 clear hgo hend hs hln htt hz0
 have ha:=at_new w (psC p) 26
 have hb:Below w.heap.size w (w.alloc (.cells (psC p) 26)):=(Below.refl _ _).alloc (Nat.le_refl _) _
 have ms:(psC p).size=1:=rfl
 have c0:(w.alloc (.cells (psC p) 26)).cell? ⟨w.heap.size,0,none⟩=some (.int .i64 (p:Int)):=((at_new w (psC p) _).cell 0).trans rfl
 obtain ⟨M,hM⟩:∃ M,M=psC p:=⟨_,rfl⟩
 rw [←hM] at pr ha hb ms c0 ⊢
 obtain ⟨w1,hw1⟩:∃ w1,w1=w.alloc (.cells M 26):=⟨_,rfl⟩
 rw [←hw1] at ha hb c0
 have HB:=zh hb;have MS:=zh ms;have AX:=zh ha;have BS:=zh hb.size
 have PR:=zh pr
 clear pr hb ms hM ha
 go_enter Tryz.func83,Tryz.ntmps83
 go_upto_region 1 with fail
 rw [←hw1]
 clear hw1
 go_wp2_with fail
 refine (WI.out _).mono ?_
 rintro e w3 ⟨rfl,rfl⟩
 rw [YZ.out]
 clear c0
 have o1:=zh (own_lit1 (w:=w3) (x:Int) (Nat.le_refl _))
 have bb1:Below w3.heap.size w3 (w3.alloc (.cells #[.int .i64 (x:Int)] 3)):=(Below.refl _ _).alloc (Nat.le_refl _) _
 have A1:=zh (AX.out.below bb1 AX.out.lt);have BB1:=zh bb1
 clear bb1
 go_upto_region 4 with fail
 obtain ⟨g1,hg1⟩:∃ g,g=w3.heap.size:=⟨_,rfl⟩
 rw [←hg1] at o1
 rw [←hg1]
 have HG:=zh hg1
 clear hg1
 generalize (w3.alloc (.cells #[.int .i64 (x:Int)] 3))=w4 at *
 go_wp2_with (refine wpList_load_all zr 26 _ zr w.heap.size zr _ Tryz.underlying26 zr M _ A1.out (by rw [MS.out];exact infoPS) ?_)
 refine (PR.out _ _).mono ?_
 rintro e w5 ⟨rfl,hb5⟩
 have O5:=zh (OwnV.below o1.out hb5)
 have B5:Hid (Below w3.heap.size w3 w5):=zh (BB1.out.trans (hb5.mono BB1.out.size))
 have A5:=zh (A1.out.below hb5 A1.out.lt)
 clear hb5 o1 A1 BB1
 obtain ⟨pz,hpz⟩:∃ pz:Nat→Int × Int × Bool,∀ k,pz k=PZ p (itp p x k:Int):=⟨_,fun _=>rfl⟩
 have PZF:=zh hpz
 rw [show PZ p (x:Int)=pz 0 from (hpz 0).symm]
 clear hpz
 go_wp2_with fail
 go_loopw [5,6,8] (fun vp vn vo wr=>∃ k:Nat,k≤t∧vn=.int .i64 (pz k).1∧vo=.bool (pz k).2.2∧OwnV wr w3.heap.size 3 vp (iz (pathZ p x (k+1)))∧Below w3.heap.size w3 wr) (fun vp _ _ _=>t+1 - slen vp)
 case atStart=>exact ⟨0,by omega,rfl,rfl,by rw [SN.out 0,←HG.out];exact O5.out,B5.out⟩
 case round=>
  obtain ⟨k,hk,rfl,rfl,ho,hbw⟩:=hrel
  have OW:=zh ho;have BW:=zh hbw
  have AW:=zh (At.below (AX.out) hbw AX.out.lt)
  have hl:(iz (pathZ p x (k+1))).length=k+1:=by rw [iz_length,LN.out]
  obtain ⟨a5,c5,rfl,_⟩:=OwnV.open ho
  rw [hl] at OW ⊢
  have HL:=zh hl
  clear ho hbw hl
  by_cases hlt:k < t
  ·have hpk:=PZF.out k
   rw [GO.out k hlt] at hpk
   rw [hpk]
   have hsn:=SN.out (k+1)
   obtain ⟨y,hy⟩:∃ y,y=itp p x (k+1):=⟨_,rfl⟩
   have hpn:=PZF.out (k+1)
   rw [←hy] at hsn hpn
   rw [←hy]
   have HSN:=zh hsn;have HPN:=zh hpn
   clear hpk hsn hpn hy
   go_upto_region 6 with (at_builtin;refine wpList_append_lit zr _ _ 61 zr (.int .i64 (y:Int)) (.int .i64 0) 8 elemInt zr zr OW.out zr zr (by rw [HL.out];omega) (by rw [HL.out];omega) (BW.out.size) ?_;intro v6 w6 ho6 _ hb6 _;have O6:Hid (OwnV w6 w3.heap.size 3 v6 (iz (pathZ p x (k+1+1)))):=zh (by rw [HSN.out,iz_snoc];exact ho6);have B6:Hid (Below w3.heap.size w3 w6):=zh (BW.out.trans hb6);clear ho6 hb6)
   have A6:=zh (At.below (AX.out) B6.out AX.out.lt)
   go_wp2_with (refine wpList_load_all zr 26 _ zr w.heap.size zr _ Tryz.underlying26 zr M _ A6.out (by rw [MS.out];exact infoPS) ?_)
   refine (PR.out _ _).mono ?_
   rintro e w7 ⟨rfl,hb7⟩
   have O7:=zh (OwnV.below O6.out (hb7))
   have B7:Hid (Below w3.heap.size w3 w7):=zh (B6.out.trans (hb7.mono B6.out.size))
   clear hb7 O6 B6 A6 OW BW AW
   have hl7:(iz (pathZ p x (k+1+1))).length=k+1+1:=by rw [iz_length,LN.out]
   obtain ⟨a7,c7,h7,_⟩:=OwnV.open O7.out
   rw [hl7] at h7
   subst h7
   clear hl7
   rw [←HPN.out]
   go_wp2_with fail
   go_roundw
   case rel=>exact ⟨k+1,by omega,rfl,rfl,O7.out,B7.out⟩
   case measure=>simp [slen];omega
  ·have hkt:k=t:=by omega
   subst hkt
   have hpk:=PZF.out k
   rw [EN.out] at hpk
   rw [hpk]
   clear hpk
   go_wp2_with fail
   go_ret
   exact ⟨_,rfl,ownV_sli OW.out,HB.out.trans (BW.out.mono BS.out)⟩
theorem ppath_any (p:Nat) (z:Int) (w:World) (h1:p≤216):Calls Tryz.prog 83 #[.agg (psC p),.int .i64 z] w (IEnd w (WZ p z)):=by
 unfold WZ
 by_cases h:0≤z∧z < (p:Int)
 ·rw [if_pos h]
  obtain ⟨x,rfl⟩:∃ x:Nat,z=(x:Int):=⟨z.toNat,by omega⟩
  rw [Int.toNat_natCast]
  exact ppath_in p x w (by omega) h1 (by omega)
 ·rw [if_neg h];exact ppath_out p z w h1 h
end Sha
end Go.Proofs.YtlhnegbjoncieaaGreatDoor
