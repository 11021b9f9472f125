/- My own texts, merged. -/
import Derived.Test.YtddjdaocdfkgeaaGreatDoorBQ39
import Derived.Test.YtddjdaocdfkgeaaGreatDoorBQ01
import Derived.Test.YtddjdaocdfkgeaaGreatDoorBQ04
import Derived.Test.YtddjdaocdfkgeaaGreatDoorBQ35
import Derived.Test.YtddjdaocdfkgeaaGreatDoorBQ19
import Derived.Test.YtddjdaocdfkgeaaGreatDoorBQ29
import Derived.Test.YtddjdaocdfkgeaaGreatDoorBQ22
set_option maxRecDepth 100000
set_option maxHeartbeats 8000000
namespace Go.Proofs.YtddjdaocdfkgeaaGreatDoor
namespace Sha
open Go.RowKit Mem
set_option maxRecDepth 100000
theorem RS.oneC {w:World} {p:Nat} {vL vF:Value} (h:RS w p vL vF):(rsC p vL vF).all (·.oneCell')=true:=by
 obtain ⟨a,c,rfl⟩:=h.l.hd
 obtain ⟨b,d,rfl⟩:=h.f.hd
 exact rsC_one _ _ _ _ _ _ _
theorem rkids14_own (p:Nat) (z:Int) (pg:Lb8) (v vL vF:Value) (w:World) (hv:Sl w v pg) (hl:pg.length≤1000) (hR:RS w p vL vF) (h0:1≤p) (h1:p≤216):Calls Tryz.prog 38 #[.agg (rsC p vL vF),.int .i64 z,v] w (RfOwn 57 w (kidsT p z pg).1 (kidsT p z pg).2):=by
 have kd:=fun wx (h:Below w.heap.size w wx)=>rkids_any p vL vF z wx (hR.below h) h0 h1
 have ps:=fun wx (h:Below w.heap.size w wx)=>rparseN_own pg ((KZ p z).length:Int) v wx (hv.below h) hl
 have hK:kidsT p z pg=if (KZ p z).length=0 then ([],1) else parseN pg ((KZ p z).length:Int):=rfl
 obtain ⟨Y,hY⟩:∃ Y,Y=kidsT p z pg:=⟨_,rfl⟩
 rw [←hY] at hK ⊢
 have hb:=(Below.refl w.heap.size w).alloc (Nat.le_refl _) (.cells (rsC p vL vF) 47)
 have ha:=at_new w (rsC p vL vF) 47
 have cs:(rsC p vL vF).size=3:=rfl
 obtain ⟨C,hC⟩:∃ C,C=rsC p vL vF:=⟨_,rfl⟩
 rw [←hC] at kd hb ha cs ⊢
 obtain ⟨K,hKe⟩:∃ K,K=KZ p z:=⟨_,rfl⟩
 rw [←hKe] at kd ps hK
 obtain ⟨n,hn⟩:∃ n,n=K.length:=⟨_,rfl⟩
 rw [←hn] at ps hK
 have KD:=zh kd;have PS:=zh ps;have HB:=zh hb;have HA:=zh ha;have CS:=zh cs;have HK:=zh hK;have HN:=zh hn.symm
 obtain ⟨a,c,rfl⟩:=sl_inv hv
 clear kd ps hb ha cs hv hY hC hKe hl hK hn hR
 go_enter Tryz.func38,Tryz.ntmps38
 go_upto_region 1 with fail
 generalize w.alloc (.cells C 47)=w1 at *
 go_wp2_with (refine wpList_load_all zr 47 _ zr w.heap.size zr _ Tryz.underlying47 zr C _ HA.out (by rw [CS.out];exact infoRS) ?_)
 refine (KD.out _ HB.out).mono ?_
 rintro e w2 ⟨vk,rfl,hk,hb2⟩
 obtain ⟨ak,ck,e2⟩:=hk.hdn HN.out
 subst e2
 have B2:=zh (HB.out.trans (hb2.mono HB.out.size))
 clear hk hb2
 by_cases h00:n=0
 ·subst h00
  have hy:Y=([],1):=by rw [HK.out,if_pos rfl]
  have HY:=zh hy
  clear hy
  go_wp2_with fail
  go_ret2
  exact ⟨_,by rw [HY.out];rfl,by rw [HY.out];exact World.ownsRow_nil _ _ _ _,B2.out⟩
 ·have hy:Y=parseN pg (n:Int):=by rw [HK.out,if_neg h00]
  have HY:=zh hy
  have hne:¬ (n:Int)=0:=by omega
  clear hy
  go_wp2_with fail
  refine (PS.out _ B2.out).mono ?_
  rintro e w3 ⟨vr,rfl,hr,hb3⟩
  have R3:=zh hr;have B3:=zh (B2.out.trans (hb3.mono B2.out.size))
  clear hr hb3
  go_wp2_with fail
  go_ret2
  exact ⟨_,by rw [HY.out];rfl,by rw [HY.out];exact ownsRow_base R3.out B2.out.size,B3.out⟩
theorem plan_piece14 {ops:Array Oper} {Q:Exit→Act→World→Prop} {S:World→Prop} {w:World} {a:Act} {o:Oper} {i:Nat} {r:Plan} (ty:TypeId) (x ix jx:Operand) (ho:ops.toList[i]?=some o) (hw:Region.wanted o (yielded ops a.tmps)=true) (hop:o.op=.slice ty x (some ix) (some jx) none)
 (hu:Tryz.prog.underlying ty=some (.slice 5)) (a0:Option Addr) (len cap k m:Nat) (hx:a.eval x=.slice a0 len cap) (hi:a.eval ix=.int .i64 (k:Int)) (hj:a.eval jx=.int .i64 (m:Int)) (hk:k≤m) (hm:m≤len) (hc:len≤cap)
 (h:wpPlan Tryz.prog ops Q S r (a.put o.dst (.slice (pieceA a0 cap k) (m - k) (cap - k))) w):wpPlan Tryz.prog ops Q S (.take i r) a w:=
 plan_take _ ho hw (fun w' _=>by
  have hr:=(slice_run ty 5 hu infoB a0 len cap k m hk hm hc w').1
  unfold execOp
  simp only [hop,hx,hi,hj,Option.map_some,Option.map_none,Sem.run_bind,hr,Result.andThen_ok,Sem.run_pure]) h
theorem o_mul14 (n k:Nat) (h:k=256*n) (hn:n≤1000) (t t2:TypeId) (x y:Operand) (w:World):(do eqGuard .mul t x y (.int .i64 256) (.int .i64 (n:Int));binOp .mul t2 (.int .i64 256) (.int .i64 (n:Int)):Sem Value).run Tryz.prog w=.ok (.int .i64 (k:Int)) w:=by
 have e:IntKind.i64.wrap (256*(n:Int))=(k:Int):=by rw [i64_id _ (by omega) (by omega)];omega
 go_simp
theorem o_add14 (n k:Nat) (h:k=n+256) (hn:n≤1000000) (t t2:TypeId) (x y:Operand) (w:World):(do eqGuard .add t x y (.int .i64 (n:Int)) (.int .i64 256);binOp .add t2 (.int .i64 (n:Int)) (.int .i64 256):Sem Value).run Tryz.prog w=.ok (.int .i64 (k:Int)) w:=by
 have e:IntKind.i64.wrap ((n:Int)+256)=(k:Int):=by rw [i64_id _ (by omega) (by omega)];omega
 go_simp
theorem bz_nat (p:Nat) (z k:Int) (h1:p≤216) (h:0≤BZ p z k):∃ n:Nat,BZ p z k=(n:Int)∧n≤1000:=by
 have:=itn_le259 p h1
 refine ⟨(BZ p z k).toNat,by omega,?_⟩
 unfold BZ at h ⊢
 split at h <;> rename_i g
 ·rw [if_pos g];omega
 ·omega
theorem rfetch14_own (B key:Lb8) (p:Nat) (z:Int) (r:RefV) (v vL vF:Value) (w:World) (lk:key.length=32) (hv:Sl w v B) (_hl:B.length≤1000000) (hR:RS w p vL vF) (h1:p≤216) (hrw:r.Wf) :
 Calls Tryz.prog 37 #[v,.agg (u8s key).toArray,.agg (rsC p vL vF),.int .i64 z,.agg (refC r)] w (SealOwn w (fetchT B key p z r).1 (fetchT B key p z r).2):=by
 have bk:=fun wx (h:Below w.heap.size w wx)=>rblock_any p vL vF z r.pl wx (hR.below h) (itn_le259 p h1)
 have op:=fun (n:Nat) vx wx (hx:Sl wx vx (blkOf B n)) (_hl:(blkOf B n).length=256) (hn:n≤1000)=>ropen_own key lk r hrw (n:Int) (by omega) (blkOf B n) vx wx hx (by omega)
 have hF:fetchT B key p z r=if BZ p z r.pl < 0∨(B.length:Int) < 256*BZ p z r.pl+256 then ([],1) else openR key r (BZ p z r.pl) (blkOf B (BZ p z r.pl).toNat):=rfl
 have hbn:=bz_nat p z r.pl h1
 have hpc:∀ (n:Nat) a c wx,Sl wx (.slice a B.length c) B→n*256+256≤B.length→Sl wx (.slice (pieceA a c (n*256)) 256 (c - n*256)) (blkOf B n):=fun n a c wx h hn=>by
  have g:=sl_piece (i:=n*256) (j:=n*256+256) h (by omega) hn
  rw [Nat.add_sub_cancel_left] at g
  exact g
 have hbl:∀ n,n*256+256≤B.length→(blkOf B n).length=256:=fun n hn=>by unfold blkOf;rw [List.length_take,List.length_drop];omega
 obtain ⟨Y,hY⟩:∃ Y,Y=fetchT B key p z r:=⟨_,rfl⟩
 rw [←hY] at hF ⊢
 have rs:=refC_size hrw;have r0:=ref0 r
 obtain ⟨M,hM⟩:∃ M,M=refC r:=⟨_,rfl⟩
 have kc:(u8s key).toArray.size=32:=by simp [u8s_length,lk]
 obtain ⟨KC,hKC⟩:∃ K,K=(u8s key).toArray:=⟨_,rfl⟩
 have cs:(rsC p vL vF).size=3:=rfl
 obtain ⟨C,hC⟩:∃ C,C=rsC p vL vF:=⟨_,rfl⟩
 rw [←hM] at rs r0 op ⊢
 rw [←hKC] at kc op ⊢
 rw [←hC] at bk cs ⊢
 obtain ⟨Z,hZ⟩:∃ Z,Z=BZ p z r.pl:=⟨_,rfl⟩
 rw [←hZ] at bk hF hbn
 obtain ⟨pl,hpl⟩:∃ pl,pl=r.pl:=⟨_,rfl⟩
 rw [←hpl] at bk r0
 have hcap:∃ a c,v=.slice a B.length c∧B.length≤c:=by
  obtain ⟨a,c,e,hc,_⟩:=hv
  exact ⟨a,c,e,hc⟩
 obtain ⟨av,cv,rfl,hcv⟩:=hcap
 have a0:At (((w.alloc (.cells KC 26)).alloc (.cells C 47)).alloc (.cells M 57)) w.heap.size KC 26:=((at_new w KC _).alloc _).alloc _
 have a1:At (((w.alloc (.cells KC 26)).alloc (.cells C 47)).alloc (.cells M 57)) (w.heap.size+1) C 47:=by
  have h:=(at_new (w.alloc (.cells KC 26)) C 47).alloc (.cells M 57)
  simpa using h
 have a2:At (((w.alloc (.cells KC 26)).alloc (.cells C 47)).alloc (.cells M 57)) (w.heap.size+1+1) M 57:=by
  have h:=at_new ((w.alloc (.cells KC 26)).alloc (.cells C 47)) M 57
  simpa using h
 have b4:Below w.heap.size w (((w.alloc (.cells KC 26)).alloc (.cells C 47)).alloc (.cells M 57)):=(((Below.refl _ _).alloc (Nat.le_refl _) _).alloc (by simp) _).alloc (by simp;omega) _
 obtain ⟨N,hN⟩:∃ N,N=B.length:=⟨_,rfl⟩
 rw [←hN] at hF hpc hbl hcv _hl hv ⊢
 have BK:=zh bk;have OP:=zh op;have HF:=zh hF;have RS:=zh rs;have R0:=zh r0;have KS:=zh kc;have CS:=zh cs;have A0:=zh a0;have A1:=zh a1;have A2:=zh a2;have B4:=zh b4;have PC:=zh hpc;have BL:=zh hbl;have HV:=zh hv;have HCV:=zh hcv;have BN:=zh hbn
 clear bk op hF rs r0 kc cs a0 a1 a2 b4 hZ hpl hC hKC hM hY hpc hbl hv hcv lk hrw hR hbn hN
 go_enter Tryz.func37,Tryz.ntmps37
 go_upto_region 1 with fail
 generalize ((w.alloc (.cells KC 26)).alloc (.cells C 47)).alloc (.cells M 57)=w4 at *
 have f0:w4.cell? ⟨w.heap.size+1+1,0,none⟩=some (.int .i64 pl):=(A2.out.cell 0).trans R0.out
 go_wp2_with (refine wpList_load_all zr 47 _ zr (w.heap.size+1) zr _ Tryz.underlying47 zr C _ A1.out (by rw [CS.out];exact infoRS) ?_)
 refine (BK.out _ B4.out).mono ?_
 rintro e w5 ⟨rfl,hb5⟩
 have B5:=zh (B4.out.trans (hb5.mono B4.out.size));have A05:=zh (A0.out.below hb5 A0.out.lt);have A25:=zh (A2.out.below hb5 A2.out.lt)
 clear hb5 f0 A0 A1 A2 B4
 by_cases hz:Z < 0
 ·have hy:Y=([],1):=by rw [HF.out,if_pos (.inl hz)]
  have HY:=zh hy
  clear hy
  go_wp2_with fail
  go_ret2
  exact ⟨_,by rw [HY.out];rfl,by rw [HY.out];exact OwnB.nil _ _,B5.out⟩
 ·obtain ⟨n,hn,hn9⟩:=BN.out (by omega)
  subst hn
  by_cases hb:n*256+256≤N
  ·have hy:Y=openR key r (n:Int) (blkOf B n):=by rw [HF.out,if_neg (by omega),Int.toNat_natCast]
   have opn:=fun vx wx hx=>OP.out n vx wx hx (BL.out n hb) hn9
   have hg:¬ (N:Int) < 256*(n:Int)+256:=by omega
   have HY:=zh hy;have OPN:=zh opn
   obtain ⟨q,hq⟩:∃ q,q=256*n:=⟨_,rfl⟩
   have HQ:=zh hq
   clear hy opn hq
   go_upto_region 4 with fail
   have D0:Hid (Below w5.heap.size w5 w5.drew):=zh (Below.refl _ _).drew
   refine wp_region_plan_in (fun y=>Below w5.heap.size w5 y) (.take 0 (.take 1 (.take 2 (.take 3 (.take 4 (.take 5 (.take 6 (.take 7 (.take 8 (.take 9 (.sole 10 (.take 11 (.take 12 (.take 13 (.take 14 .done))))))))))))))) (by kernel_rfl) (by kernel_rfl) (by kernel_rfl) D0.out ?_
   refine plan_row 26 _ w.heap.size _ KC 26 zr zr zr ze (fun w' hw'=>A05.out.below hw' A05.out.lt) Tryz.underlying26 zr (by rw [KS.out];kernel_rfl) ?_
   (simp only [Mem.zp,Mem.pb,Mem.pc])
   refine plan_row 57 _ (w.heap.size+1+1) _ M 57 zr zr zr ze (fun w' hw'=>A25.out.below hw' A25.out.lt) Tryz.underlying57 zr (by rw [RS.out];exact infoRfR) ?_
   (simp only [Mem.zp,Mem.pb,Mem.pc])
   iterate 3 ((first | refine Mem.pm1 ?_ | refine Mem.pm2 ?_ | refine Mem.pt ?_ | refine Mem.pf ?_);(simp only [Mem.zp,Mem.pb,Mem.pc]))
   refine plan_bin _ _ _ _ _ _ _ (.int .i64 (q:Int)) zr zr zr ze ze (fun wx=>o_mul14 n q HQ.out hn9 _ _ _ _ wx) ?_
   (simp only [Mem.zp,Mem.pb,Mem.pc])
   (first | refine Mem.pm1 ?_ | refine Mem.pm2 ?_ | refine Mem.pt ?_ | refine Mem.pf ?_)
   (simp only [Mem.zp,Mem.pb,Mem.pc])
   refine plan_bin _ _ _ _ _ _ _ (.int .i64 (q:Int)) zr zr zr ze ze (fun wx=>o_mul14 n q HQ.out hn9 _ _ _ _ wx) ?_
   (simp only [Mem.zp,Mem.pb,Mem.pc])
   refine plan_bin _ _ _ _ _ _ _ (.int .i64 ((q+256:Nat):Int)) zr zr zr ze ze (fun wx=>o_add14 q (q+256) rfl (by have:=HQ.out;omega) _ _ _ _ wx) ?_
   (simp only [Mem.zp,Mem.pb,Mem.pc])
   refine plan_piece14 _ _ _ _ zr zr zr Tryz.underlying40 av N cv q (q+256) ze ze ze (by omega) (by have:=HQ.out;omega) HCV.out ?_
   (simp only [Mem.zp,Mem.pb,Mem.pc])
   refine plan_call 59 _ _ _ (by kernel_rfl) zr zr zr (by first | exact Mem.ev_none _ | (simp only [List.map_toArray,List.map_cons,List.map_nil,Mem.ev_tmp,List.getD_cons_succ,List.getD_cons_zero] <;> rfl)) ?_
   have hsl:Sl w5.drew (.slice (pieceA av cv q) (q+256 - q) (cv - q)) (blkOf B n):=by
    have g:=PC.out n av cv w5.drew (HV.out.below (B5.out.drew)) hb
    rw [HQ.out,Nat.add_sub_cancel_left,Nat.mul_comm 256 n]
    exact g
   refine (OPN.out _ _ hsl).mono ?_
   rintro o6 w6 ⟨v6,rfl,ho6,hb6⟩
   have O6:=zh ho6
   have Q6:Hid (Below w5.heap.size w5 w6):=zh (D0.out.trans (hb6.mono (Nat.le_refl _)))
   clear ho6 hb6 hsl
   refine ⟨_,rfl,Q6.out,?_⟩
   (simp only [Mem.zp,Mem.pb,Mem.pc])
   refine plan_extract _ 0 _ _ zr zr zr ze zr ?_
   (simp only [Mem.zp,Mem.pb,Mem.pc])
   refine plan_extract _ 1 _ _ zr zr zr ze zr ?_
   (simp only [Mem.zp,Mem.pb,Mem.pc])
   iterate 2 ((first | refine Mem.pm1 ?_ | refine Mem.pm2 ?_ | refine Mem.pt ?_ | refine Mem.pf ?_);(simp only [Mem.zp,Mem.pb,Mem.pc]))
   refine plan_nil ?_
   go_wp2_with fail
   go_ret2
   exact ⟨_,by rw [HY.out];rfl,by rw [HY.out];exact ownsRow_base O6.out B5.out.size,B5.out.trans (Q6.out.mono B5.out.size)⟩
  ·have hy:Y=([],1):=by rw [HF.out,if_pos (.inr (by omega))]
   have hg:(N:Int) < 256*(n:Int)+256:=by omega
   have HY:=zh hy
   clear hy
   go_wp2_with fail
   go_ret2
   exact ⟨_,by rw [HY.out];rfl,by rw [HY.out];exact OwnB.nil _ _,B5.out⟩
theorem pway_none {b:Nat} (key:Lb8) (p:Nat) (r:RefV) (z:Int) (w:World) (h1:p≤216) (hz:z < 0∨(p:Int)≤z) :
 Calls Tryz.prog 15 #[.pointer none,rq b,.agg (u8s key).toArray,.agg (psC p),.agg (refC r),.int .i64 z] w (WyEnd w ([],[],1)):=by
 have pt:=fun wx=>ppath_any p z wx h1
 have hw:WZ p z=[]:=by unfold WZ;rw [if_neg (by omega)]
 rw [hw] at pt
 unfold WyEnd
 show Calls _ _ _ _ (fun e w'=>∃ vr vp,e=.returned (.tuple #[vr,vp,.int .i64 1])∧SlRf w' vr []∧Sl w' vp []∧Below w.heap.size w w')
 obtain ⟨M,hM⟩:∃ M,M=refC r:=⟨_,rfl⟩
 obtain ⟨KC,hKC⟩:∃ K,K=(u8s key).toArray:=⟨_,rfl⟩
 have cs:(psC p).size=1:=rfl
 obtain ⟨C,hC⟩:∃ C,C=psC p:=⟨_,rfl⟩
 rw [←hM,←hKC]
 rw [←hC] at pt cs ⊢
 have a1:At (((w.alloc (.cells KC 26)).alloc (.cells C 29)).alloc (.cells M 32)) (w.heap.size+1) C 29:=by
  have h:=(at_new (w.alloc (.cells KC 26)) C 29).alloc (.cells M 32)
  simpa using h
 have b4:Below w.heap.size w (((w.alloc (.cells KC 26)).alloc (.cells C 29)).alloc (.cells M 32)):=(((Below.refl _ _).alloc (Nat.le_refl _) _).alloc (by simp) _).alloc (by simp;omega) _
 have PT:=zh pt;have CS:=zh cs;have A1:=zh a1;have B4:=zh b4
 clear pt cs a1 b4 hM hKC hC hw hz
 go_enter Tryz.func15,Tryz.ntmps15
 go_upto_region 1 with fail
 generalize ((w.alloc (.cells KC 26)).alloc (.cells C 29)).alloc (.cells M 32)=w4 at *
 go_wp2_with (refine wpList_load_all zr 29 _ zr (w.heap.size+1) zr _ Tryz.underlying29 zr C _ A1.out (by rw [CS.out];exact infoPS) ?_)
 refine (PT.out _).mono ?_
 rintro e w5 ⟨vk,rfl,hk,hb5⟩
 obtain ⟨ak,ck,rfl⟩:=hk.hdn (n:=0) rfl
 have B5:=zh (B4.out.trans (hb5.mono B4.out.size))
 clear hk hb5
 go_wp2_with fail
 go_ret3
 exact ⟨_,_,rfl,SlRf.nil _,sl_none _,B5.out⟩
theorem pway_some {F:Foot} {b:Nat} {s:St6} (key:Lb8) (p:Nat) (root:RefV) (x:Nat) (w:World) (hT:TT w) (lk:key.length=32) (hp:PSt F b w s) (hok:Ok6 1000 s) (hw0:s.w=[]) (h0:1≤p) (h1:p≤216) (hrw:root.Wf) (hx:x < p) :
 Calls Tryz.prog 15 #[.pointer none,rq b,.agg (u8s key).toArray,.agg (psC p),.agg (refC root),.int .i64 (x:Int)] w (WyEnd w (wayT s.b key p root (x:Int))):=by
 have htop:=top_le p
 have pt:=fun wx=>ppath_any p (x:Int) wx h1
 have hw:WZ p (x:Int)=pathZ p x (topn p+1):=by unfold WZ;rw [if_pos ⟨by omega,by omega⟩,Int.toNat_natCast]
 rw [hw] at pt
 have kl:=pathZ_length p x (topn p+1)
 have kg:∀ i,i < topn p+1→(pathZ p x (topn p+1)).getD i 0=(itp p x i:Int):=fun i hi=>by simp [pathZ,List.getD_eq_getElem?_getD,hi]
 obtain ⟨K,hK⟩:∃ K,K=pathZ p x (topn p+1):=⟨_,rfl⟩
 rw [←hK] at pt kl kg
 have hwf:=fun k=>wayL_wf (B:=s.b) (key:=key) (p:=p) hrw x k
 have hgw:=fun k=>getD_wf (wayG_wf (B:=s.b) (key:=key) (p:=p) hrw x k) 0
 have fk0:=fun (i:Nat) (r:RefV) wx (h:Below w.heap.size w wx) (hr:r.Wf)=>pfetchKids_any key p (itp p x i:Int) r wx (hT.below h) lk (pst_below hp h) hok hw0 h1 hr
 have ft0:=fun (r:RefV) wx (h:Below w.heap.size w wx) (hr:r.Wf)=>pfetch14_any key p (x:Int) r wx (hT.below h) lk (pst_below hp h) hok hw0 h1 hr
 have par:=fun (i:Nat) wx=>pparent_any p (itp p x i:Int) wx h1
 have hpz:=fun i (hi:i < topn p)=>itp_par p x i h0 h1 hx hi
 have hch:=fun m (hm:m < topn p)=>itp_child p x m h0 h1 hx hm
 obtain ⟨T,hTp⟩:∃ T,T=topn p:=⟨_,rfl⟩
 obtain ⟨ok,hokf⟩:∃ f:Nat→Int,f=fun i=>(wayG s.b key p root x (T - i)).2:=⟨_,rfl⟩
 obtain ⟨WL,hWL⟩:∃ f:Nat→List RefV,f=fun i=>wayL s.b key p root x (T - i):=⟨_,rfl⟩
 obtain ⟨hd,hhd⟩:∃ f:Nat→RefV,f=fun i=>(wayG s.b key p root x (T - i)).1.getD 0 zref:=⟨_,rfl⟩
 obtain ⟨fk2,hfk2⟩:∃ f:Nat→List RefV × Int,f=fun i=>fkT s.b key p (itp p x i:Int) (hd i):=⟨_,rfl⟩
 obtain ⟨aw,haw⟩:∃ f:Nat→Nat,f=fun i=>(parN p (itp p x i)).2:=⟨_,rfl⟩
 have l0:(List.replicate (T+1) zref).set T root=WL T:=by
  rw [hWL,hTp];show _=wayL s.b key p root x (topn p - topn p);rw [Nat.sub_self];exact wayL_zero
 have o0:ok T=0:=by rw [hokf];show (wayG s.b key p root x (T - T)).2=0;rw [Nat.sub_self];rfl
 have ll:∀ i,i≤T→ok i=0→(WL i).length=T+1:=fun i hi h=>by
  rw [hokf] at h;rw [hWL,hTp];subst hTp;exact wayL_length (by omega) h
 have lh:∀ i,i≤T→(WL i).getD i zref=hd i:=fun i hi=>by
  rw [hWL,hhd]
  have h:=wayL_head (B:=s.b) (key:=key) (p:=p) (root:=root) (x:=x) (k:=T - i)
  rw [←hTp,show T - (T - i)=i by omega] at h
  exact h
 have hdw:∀ i,(hd i).Wf:=fun i=>by rw [hhd];exact hgw _
 have lw:∀ i,∀ r∈WL i,r.Wf:=fun i=>by rw [hWL];exact hwf _
 have st:∀ i,0 < i→i≤T→ok i=0→(fk2 i).2=0→ok (i - 1)=0∧(WL i).set (i - 1) ((fk2 i).1.getD (aw (i - 1)) zref)=WL (i - 1):=fun i hi hl h h2=>by
  rw [hokf] at h ⊢
  rw [hfk2,hhd] at h2
  have e1:topn p - (T - i)=i:=by omega
  have e2:topn p - (T - i+1)=i - 1:=by omega
  have e3:T - (i - 1)=T - i+1:=by omega
  have s1:=wayG_step h
  rw [e1] at s1
  rw [if_neg (fun n=>n h2)] at s1
  have s2:=wayL_set (B:=s.b) (key:=key) (p:=p) (root:=root) (x:=x) (k:=T - i) (by omega) h (by rw [e1];exact h2)
  rw [e1,e2] at s2
  refine ⟨by show (wayG s.b key p root x (T - (i - 1))).2=0;rw [e3,s1],?_⟩
  rw [hWL,hfk2,haw,hhd]
  show _=wayL s.b key p root x (T - (i - 1))
  rw [e3]
  exact s2
 have er:∀ i,0 < i→i≤T→ok i=0→(fk2 i).2≠0→wayT s.b key p root (x:Int)=([],[],(fk2 i).2):=fun i hi hl h h2=>by
  rw [hokf] at h
  have e1:topn p - (T - i)=i:=by omega
  have s1:=wayG_step h
  rw [e1] at s1
  have e5:fkT s.b key p (itp p x i:Int) ((wayG s.b key p root x (T - i)).1.getD 0 zref)=fk2 i:=by rw [hfk2,hhd]
  rw [e5,if_pos h2] at s1
  exact wayT_err hx (k:=T - i+1) (by omega) (by rw [s1]) h2
 have fl:∀ i,0 < i→i≤T→(fk2 i).2=0→aw (i - 1) < (fk2 i).1.length:=fun i hi hl h=>by
  have hc:=hch (i - 1) (by omega)
  rw [show i - 1+1=i by omega] at hc
  rw [hfk2] at h ⊢
  rw [haw]
  show _ < (fkT s.b key p (itp p x i:Int) (hd i)).1.length
  rw [fkT_len hc.2.2.2.1 hc.2.2.2.2 h]
  exact hc.2.1
 have pz:∀ i,0 < i→i≤T→PZ p (itp p x (i - 1):Int)=((itp p x i:Int),(aw (i - 1):Int),true):=fun i hi hl=>by
  have h:=hpz (i - 1) (by omega)
  rw [show i - 1+1=i by omega] at h
  rw [h,haw]
 have fkw:∀ i,∀ r∈(fk2 i).1,r.Wf:=fun i=>by rw [hfk2];exact fkT_wf _ _ _ _ _
 have hla:ok 0=0→wayT s.b key p root (x:Int)=if (fetchT s.b key p (x:Int) (hd 0)).2≠0 then ([],[],(fetchT s.b key p (x:Int) (hd 0)).2) else (WL 0,(fetchT s.b key p (x:Int) (hd 0)).1,0):=fun h=>by
  rw [hokf] at h
  have g:=wayT_last (B:=s.b) (key:=key) (p:=p) (root:=root) hx (by rw [←hTp];exact h)
  have e9:WL 0=(wayG s.b key p root x (topn p)).1:=by rw [hWL];show wayL s.b key p root x (T - 0)=_;rw [Nat.sub_zero,hTp];exact wayL_last
  have e8:hd 0=(wayG s.b key p root x (topn p)).1.getD 0 zref:=by rw [hhd];show (wayG s.b key p root x (T - 0)).1.getD 0 zref=_;rw [Nat.sub_zero,hTp]
  rw [g,e8,e9]
 have fk:∀ i wx,Below w.heap.size w wx→Calls Tryz.prog 34 #[.pointer none,rq b,.agg (u8s key).toArray,.agg (psC p),.int .i64 (itp p x i:Int),.agg (refC (hd i))] wx (RfEnd wx (fk2 i).1 (fk2 i).2):=fun i wx h=>by rw [hfk2];exact fk0 i (hd i) wx h (hdw i)
 have ft:=fun wx h=>ft0 (hd 0) wx h (hdw 0)
 clear ft0 fk0
 obtain ⟨FT,hFT⟩:∃ f,f=fetchT s.b key p (x:Int) (hd 0):=⟨_,rfl⟩
 rw [←hFT] at ft hla
 obtain ⟨Y,hY⟩:∃ Y,Y=wayT s.b key p root (x:Int):=⟨_,rfl⟩
 rw [←hY] at er hla ⊢
 obtain ⟨it,hit⟩:∃ f:Nat→Nat,f=itp p x:=⟨_,rfl⟩
 rw [←hit] at kg fk par pz
 rw [←hTp] at kl kg htop
 obtain ⟨i2,hi2,hz2,hs2,hb2⟩:=info_parts elemRP.2
 have rs:=refC_size hrw;have ro:=refC_one root
 obtain ⟨M,hM⟩:∃ M,M=refC root:=⟨_,rfl⟩
 have hrm:refL root=M.toList:=by rw [hM];rfl
 have kc:(u8s key).toArray.size=32:=by simp [u8s_length,lk]
 obtain ⟨KC,hKC⟩:∃ K,K=(u8s key).toArray:=⟨_,rfl⟩
 have cs:(psC p).size=1:=rfl
 obtain ⟨C,hC⟩:∃ C,C=psC p:=⟨_,rfl⟩
 rw [←hM] at rs ro ⊢
 rw [←hKC] at kc ft fk ⊢
 rw [←hC] at pt ft fk par cs ⊢
 have a0:At (((w.alloc (.cells KC 26)).alloc (.cells C 29)).alloc (.cells M 32)) w.heap.size KC 26:=((at_new w KC _).alloc _).alloc _
 have a1:At (((w.alloc (.cells KC 26)).alloc (.cells C 29)).alloc (.cells M 32)) (w.heap.size+1) C 29:=by
  have h:=(at_new (w.alloc (.cells KC 26)) C 29).alloc (.cells M 32)
  simpa using h
 have a2:At (((w.alloc (.cells KC 26)).alloc (.cells C 29)).alloc (.cells M 32)) (w.heap.size+1+1) M 32:=by
  have h:=at_new ((w.alloc (.cells KC 26)).alloc (.cells C 29)) M 32
  simpa using h
 have b4:Below w.heap.size w (((w.alloc (.cells KC 26)).alloc (.cells C 29)).alloc (.cells M 32)):=(((Below.refl _ _).alloc (Nat.le_refl _) _).alloc (by simp) _).alloc (by simp;omega) _
 unfold WyEnd
 have PT:=zh pt;have KL:=zh kl;have KG:=zh kg;have L0:=zh l0;have O0:=zh o0;have LL:=zh ll;have LH:=zh lh;have HDW:=zh hdw;have LW:=zh lw;have ST:=zh st;have ER:=zh er;have FL:=zh fl;have PZH:=zh pz;have FKW:=zh fkw;have LA:=zh hla;have FK:=zh fk;have FTH:=zh ft;have PAR:=zh par
 have I2:=zh hi2;have Z2:=zh hz2;have S2:=zh hs2;have B2:=zh hb2;have RS:=zh rs;have RO:=zh ro;have HM:=zh hrm;have KS:=zh kc;have CS:=zh cs;have RWF:=zh hrw
 have A0:=zh a0;have A1:=zh a1;have A2:=zh a2;have B4:=zh b4
 clear pt kl kg l0 o0 ll lh hdw lw st er fl pz fkw hla fk ft par hi2 hz2 hs2 hb2 rs ro hrm kc cs a0 a1 a2 b4 hM hKC hC hFT hY hit hokf hWL hhd hfk2 haw hTp hK hpz hch hgw hwf hw hT lk hp hok hw0 hrw h0 h1 hx
 go_enter Tryz.func15,Tryz.ntmps15
 go_upto_region 1 with fail
 generalize ((w.alloc (.cells KC 26)).alloc (.cells C 29)).alloc (.cells M 32)=w4 at *
 go_wp2_with (refine wpList_load_all zr 29 _ zr (w.heap.size+1) zr _ Tryz.underlying29 zr C _ A1.out (by rw [CS.out];exact infoPS) ?_)
 refine (PT.out _).mono ?_
 rintro e w5 ⟨vk,rfl,hk,hb5⟩
 obtain ⟨N,hN⟩:∃ N,N=T+1:=⟨_,rfl⟩
 rw [←hN] at KL
 obtain ⟨ak,ck,rfl⟩:=hk.hdn KL.out
 have HK:=zh hk;have B5:=zh (B4.out.trans (hb5.mono B4.out.size));have A05:=zh (A0.out.below hb5 A0.out.lt);have A15:=zh (A1.out.below hb5 A1.out.lt);have A25:=zh (A2.out.below hb5 A2.out.lt)
 have nn0:¬ (N:Int)=0:=by omega
 have NT:Hid ((N:Int) - 1=(T:Int)):=zh (by omega)
 have hN9:N≤4:=by omega
 have HN:=zh hN
 clear hk hb5 A0 A1 A2 B4 hN htop
 go_upto_region 5 with (refine wpList_make_full _ zr _ _ 51 zr w5.heap.size 32 i2 (.agg (refC zref)) 34 Tryz.underlying51 I2.out Z2.out S2.out .i64 .i64 (N:Int) (N:Int) N zr zr zr zr (by rw [B2.out];omega) (by simp [maxLen];omega) (Nat.le_refl _) ?_;intro w6 ho6 hg6;have O6:=zh ho6;have B6:Hid (Below w5.heap.size w5 w6):=zh ((Below.refl _ _).grown hg6 (Nat.le_refl _) (fun k e=>by cases e));clear ho6 hg6)
 have o6:OwnRf w6 w5.heap.size 32 (.slice (some ⟨w5.heap.size,0,none⟩) N N) (List.replicate (T+1) zref):=by
  have h:=O6.out
  rw [made_refs,HN.out] at h
  rw [HN.out]
  show w6.ownsRow _ _ _ _ (List.replicate (T+1) zref).length _
  rw [List.length_replicate]
  exact h
 obtain ⟨g,hg⟩:∃ g,g=w5.heap.size:=⟨_,rfl⟩
 obtain ⟨g',cap',cur,ev,hgB,hgl,hcur,hfit,hown⟩:=own_store (i:=T) o6 (fun r hr=>by rw [List.eq_of_mem_replicate hr];exact zref_wf) RWF.out (by simp)
 injection ev with ev1 ev2 ev3
 injection ev1 with ev1
 injection ev1 with ev1 _ _
 rw [←hg] at ev1
 subst ev1
 rw [L0.out,HM.out] at hown
 have CUR:=zh hcur;have FIT:=zh hfit;have OWN:=zh hown
 have A06:=zh (A05.out.below B6.out A05.out.lt);have A16:=zh (A15.out.below B6.out A15.out.lt);have A26:=zh (A25.out.below B6.out A25.out.lt)
 have HG:=zh hg
 rw [←hg]
 clear o6 hgB hgl hcur hfit hown ev2 ev3 hg
 go_upto_region 6 with fail
 rw [NT.out]
 have hTN:(T:Int) < (N:Int):=by have:=HN.out;omega
 go_upto_region 7 with (first
  | (refine wpList_load_all zr 32 _ zr (w.heap.size+1+1) zr _ Tryz.underlying32 zr M _ A26.out (by rw [RS.out];exact infoRfP) ?_)
  | (refine wpList_store_at zr 32 _ _ zr zr g (T*34) M zr zr (by rw [RS.out];exact infoRfP) cur 32 CUR.out (by rw [RS.out];exact FIT.out) RO.out ?_))
 have B7:Hid (Below w5.heap.size w5 (w6.setRow g (Mem.splice cur (T*34) M.toList))):=zh (below_row B6.out (by rw [HG.out];exact Nat.le_refl _) _)
 generalize w6.setRow g (Mem.splice cur (T*34) M.toList)=w7 at *
 clear CUR FIT O6 B6 A06 A16 A26
 obtain ⟨kb,ko,ea,_,_⟩:=sli_at (i:=0) HK.out KL.out.symm (by have:=HN.out;omega)
 subst ea
 go_wp2_with fail
 go_loopw [18] (fun vi wr=>∃ i:Nat,i≤T∧vi=.int .i64 (i:Int)∧ok i=0∧OwnRf wr w5.heap.size 32 (.slice (some ⟨g,0,none⟩) N N) (WL i)∧Below w5.heap.size w5 wr) (fun vi _=>(intOf vi).toNat)
 case atStart=>exact ⟨T,Nat.le_refl _,rfl,O0.out,by rw [HG.out];exact OWN.out,B7.out⟩
 case round=>
  obtain ⟨i,hi,rfl,hk0,ho,hbw⟩:=hrel
  have OW:=zh ho;have BW:=zh hbw;have OK:=zh hk0
  have BX:Hid (Below w.heap.size w wr):=zh (B5.out.trans (hbw.mono B5.out.size))
  have A0W:=zh (A05.out.below hbw A05.out.lt);have A1W:=zh (A15.out.below hbw A15.out.lt)
  have SW:=zh (own_slrf ho (LW.out i))
  have hln:=LL.out i hi hk0
  rw [←HN.out] at hln
  have LN:=zh hln.symm
  have hgl:g < wr.heap.size:=(World.ownsRow.lt ho g rfl).2
  have hkc:∀ j,j≤T→∀ y,Below wr.heap.size wr y→y.cell? ⟨kb,ko+j,none⟩=some (.int .i64 (it j:Int)):=fun j hj y hy=>by
   have h:=sli_cell (i:=j) ((HK.out.below hbw).below hy) KL.out.symm (by have:=HN.out;omega)
   rw [KG.out j (by omega)] at h
   exact h
  have hdr:∀ y,Below wr.heap.size wr y→y.rangeAt g (0+i*34) (refL (hd i)):=fun y hy=>by
   have h:=slrf_cell (i:=i) (SW.out.below hy) LN.out (by have:=HN.out;omega)
   rw [LH.out i hi] at h
   exact h
  have KC1:=zh hkc;have HDR:=zh hdr;have GL:=zh hgl
  clear ho hbw hk0 hln hkc hdr hgl SW
  by_cases h0i:0 < i
  ·have hpos:(i:Int) > 0:=by omega
   have hpos2:¬ (i:Int)≤0:=by omega
   have hfk:=FK.out i wr.drew ((BX.out).drew)
   have her:=ER.out i h0i hi OK.out
   have hst:=ST.out i h0i hi OK.out
   have hfl:=FL.out i h0i hi
   have hpz:=PZH.out i h0i hi
   have hfw:=FKW.out i
   have hpr:=PAR.out (i - 1)
   rw [hpz] at hpr
   have hds:=refC_size (HDW.out i)
   obtain ⟨HM1,hHM1⟩:∃ m,m=refC (hd i):=⟨_,rfl⟩
   have hdm:refL (hd i)=HM1.toList:=by rw [hHM1];rfl
   rw [←hHM1] at hfk hds
   obtain ⟨kL,e,hke⟩:∃ a c,fk2 i=(a,c):=⟨_,_,rfl⟩
   rw [hke] at hfk her hst hfl hfw
   simp only at hfk her hst hfl hfw
   clear hke
   have FKI:=zh hfk;have ERI:=zh her;have STI:=zh hst;have FLI:=zh hfl;have FWI:=zh hfw;have PRI:=zh hpr;have HDS:=zh hds;have HDM:=zh hdm
   clear hfk her hst hfl hpz hfw hpr hds hdm hHM1
   go_upto_region 10 with fail
   have D0:Hid (Below wr.heap.size wr wr.drew):=zh (Below.refl _ _).drew
   refine wp_region_plan_in (fun y=>Below wr.heap.size wr y) (.take 0 (.take 1 (.take 2 (.take 3 (.take 4 (.take 5 (.take 6 (.take 7 (.take 8 (.take 9 (.take 10 (.take 11 (.sole 12 (.take 13 (.take 14 (.take 15 (.take 16 (.take 17 .done)))))))))))))))))) (by kernel_rfl) (by kernel_rfl) (by kernel_rfl) D0.out ?_
   iterate 2 ((first | refine Mem.pm1 ?_ | refine Mem.pm2 ?_ | refine Mem.pt ?_ | refine Mem.pf ?_);(simp only [Mem.zp,Mem.pb,Mem.pc]))
   refine plan_row 26 _ w.heap.size _ KC 26 zr zr zr ze (fun w' hw'=>A0W.out.below hw' A0W.out.lt) Tryz.underlying26 zr (by rw [KS.out];kernel_rfl) ?_
   (simp only [Mem.zp,Mem.pb,Mem.pc])
   refine plan_row 29 _ (w.heap.size+1) _ C 29 zr zr zr ze (fun w' hw'=>A1W.out.below hw' A1W.out.lt) Tryz.underlying29 zr (by rw [CS.out];exact infoPS) ?_
   (simp only [Mem.zp,Mem.pb,Mem.pc])
   iterate 2 ((first | refine Mem.pm1 ?_ | refine Mem.pm2 ?_ | refine Mem.pt ?_ | refine Mem.pf ?_);(simp only [Mem.zp,Mem.pb,Mem.pc]))
   refine plan_index 45 3 _ _ kb ko N ck i zr zr zr ze ze (by have:=HN.out;omega) Tryz.underlying45 infoInt ?_
   (simp only [Mem.zp,Mem.pb,Mem.pc])
   refine plan_cell 3 _ _ (.int .i64 (it i:Int)) _ zr zr zr ze (fun w' hw'=>KC1.out i hi w' hw') Tryz.underlying3 zr ?_
   (simp only [Mem.zp,Mem.pb,Mem.pc])
   iterate 2 ((first | refine Mem.pm1 ?_ | refine Mem.pm2 ?_ | refine Mem.pt ?_ | refine Mem.pf ?_);(simp only [Mem.zp,Mem.pb,Mem.pc]))
   refine plan_index_z 51 32 _ _ g 0 N N 34 i zr zr zr ze ze (by have:=HN.out;omega) Tryz.underlying51 infoRfP ?_
   (simp only [Mem.zp,Mem.pb,Mem.pc])
   refine plan_load_range 32 _ g (0+i*34) _ HM1 zr zr zr ze (fun w' hw'=>by rw [←HDM.out];exact HDR.out w' hw') Tryz.underlying32 zr (by rw [HDS.out];exact infoRfP) ?_
   (simp only [Mem.zp,Mem.pb,Mem.pc])
   refine plan_call 34 _ _ _ (by kernel_rfl) zr zr zr (by first | exact Mem.ev_none _ | (simp only [List.map_toArray,List.map_cons,List.map_nil,Mem.ev_tmp,List.getD_cons_succ,List.getD_cons_zero] <;> rfl)) ?_
   refine (FKI.out).mono ?_
   rintro o8 w8 ⟨vk8,rfl,hr8,hb8⟩
   have R8:=zh hr8
   have Q8:Hid (Below wr.heap.size wr w8):=zh (D0.out.trans (hb8.mono (Nat.le_refl _)))
   clear hr8 hb8
   refine ⟨_,rfl,Q8.out,?_⟩
   (simp only [Mem.zp,Mem.pb,Mem.pc])
   (first | refine Mem.pm1 ?_ | refine Mem.pm2 ?_ | refine Mem.pt ?_ | refine Mem.pf ?_)
   (simp only [Mem.zp,Mem.pb,Mem.pc])
   refine plan_extract _ 0 _ _ zr zr zr ze zr ?_
   (simp only [Mem.zp,Mem.pb,Mem.pc])
   refine plan_extract _ 1 _ _ zr zr zr ze zr ?_
   (simp only [Mem.zp,Mem.pb,Mem.pc])
   iterate 2 ((first | refine Mem.pm1 ?_ | refine Mem.pm2 ?_ | refine Mem.pt ?_ | refine Mem.pf ?_);(simp only [Mem.zp,Mem.pb,Mem.pc]))
   refine plan_nil ?_
   have BX8:Hid (Below w.heap.size w w8):=zh (BX.out.trans (Q8.out.mono BX.out.size))
   obtain ⟨ak8,ck8,rfl⟩:=R8.out.hd
   by_cases he:e=0
   ·subst he
    have hfl:=FLI.out rfl
    obtain ⟨s1,s2⟩:=STI.out rfl
    have O8:=zh (ownsRow_below OW.out Q8.out)
    have B8:Hid (Below w5.heap.size w5 w8):=zh (BW.out.trans (Q8.out.mono BW.out.size))
    have A18:=zh (A1W.out.below Q8.out A1W.out.lt)
    obtain ⟨j,hj⟩:∃ j,j=i - 1:=⟨_,rfl⟩
    rw [←hj] at PRI s1 s2 hfl
    have hji:(i:Int) - 1=(j:Int):=by omega
    have JI:=zh hji
    have hj9:j < T:=by omega
    obtain ⟨aj,haj⟩:∃ aj,aj=aw j:=⟨_,rfl⟩
    rw [←haj] at PRI s2 hfl
    obtain ⟨rr,hrr⟩:∃ r,r=kL.getD aj zref:=⟨_,rfl⟩
    rw [←hrr] at s2
    have hrw:rr.Wf:=by rw [hrr];exact getD_wf FWI.out aj
    obtain ⟨rb,ro,ea,hrl,hrg⟩:=slrf_at (i:=aj) R8.out rfl hfl
    rw [←hrr] at hrg
    subst ea
    have rs1:=refC_size hrw;have ro1:=refC_one rr
    obtain ⟨RM,hRM⟩:∃ m,m=refC rr:=⟨_,rfl⟩
    have hrm1:refL rr=RM.toList:=by rw [hRM];rfl
    rw [←hRM] at rs1 ro1
    rw [hrm1] at hrg
    have HFL:=zh hfl;have S1:=zh s1;have S2':=zh s2;have RW1:=zh hrw;have RS1:=zh rs1;have RO1:=zh ro1;have RM1:=zh hrm1;have RG1:=zh hrg;have RL1:=zh hrl
    have KC2:=zh (KC1.out j (by omega))
    clear hfl s1 s2 hrw rs1 ro1 hrm1 hrg hrl hRM hrr haj hji hj
    obtain ⟨nk,hnk⟩:∃ nk,nk=kL.length:=⟨_,rfl⟩
    rw [←hnk] at HFL ⊢
    go_upto_region 13 with fail
    have D8:Hid (Below w8.heap.size w8 w8.drew):=zh (Below.refl _ _).drew
    have KC3:Hid (∀ y,Below w8.heap.size w8 y→y.cell? ⟨kb,ko+j,none⟩=some (.int .i64 (it j:Int))):=zh fun y hy=>KC2.out y (Q8.out.trans (hy.mono Q8.out.size))
    refine wp_region_plan_in (fun y=>Below w8.heap.size w8 y) (.take 0 (.take 1 (.take 2 (.take 3 (.take 4 (.take 5 (.sole 6 (.take 7 (.take 8 (.take 9 (.take 10 (.take 11 (.take 12 (.take 13 .done)))))))))))))) (by kernel_rfl) (by kernel_rfl) (by kernel_rfl) D8.out ?_
    refine plan_row 29 _ (w.heap.size+1) _ C 29 zr zr zr ze (fun w' hw'=>A18.out.below hw' A18.out.lt) Tryz.underlying29 zr (by rw [CS.out];exact infoPS) ?_
    (simp only [Mem.zp,Mem.pb,Mem.pc])
    iterate 2 ((first | refine Mem.pm1 ?_ | refine Mem.pm2 ?_ | refine Mem.pt ?_ | refine Mem.pf ?_);(simp only [Mem.zp,Mem.pb,Mem.pc]))
    refine plan_bin _ _ _ _ _ _ _ (.int .i64 (j:Int)) zr zr zr ze ze (fun wx=>by rw [←JI.out];go_simp;exact i64_id _ (by omega) (by omega)) ?_
    (simp only [Mem.zp,Mem.pb,Mem.pc])
    refine plan_index 45 3 _ _ kb ko N ck j zr zr zr ze ze (by have:=HN.out;omega) Tryz.underlying45 infoInt ?_
    (simp only [Mem.zp,Mem.pb,Mem.pc])
    refine plan_cell 3 _ _ (.int .i64 (it j:Int)) _ zr zr zr ze (fun w' hw'=>KC3.out w' hw') Tryz.underlying3 zr ?_
    (simp only [Mem.zp,Mem.pb,Mem.pc])
    refine plan_call 41 _ _ _ (by kernel_rfl) zr zr zr (by first | exact Mem.ev_none _ | (simp only [List.map_toArray,List.map_cons,List.map_nil,Mem.ev_tmp,List.getD_cons_succ,List.getD_cons_zero] <;> rfl)) ?_
    refine (PRI.out w8.drew).mono ?_
    rintro o9 w9 ⟨rfl,hb9⟩
    have Q9:Hid (Below w8.heap.size w8 w9):=zh (D8.out.trans (hb9.mono (Nat.le_refl _)))
    clear hb9
    refine ⟨_,rfl,Q9.out,?_⟩
    (simp only [Mem.zp,Mem.pb,Mem.pc])
    (first | refine Mem.pm1 ?_ | refine Mem.pm2 ?_ | refine Mem.pt ?_ | refine Mem.pf ?_)
    (simp only [Mem.zp,Mem.pb,Mem.pc])
    refine plan_extract _ 0 _ _ zr zr zr ze zr ?_
    (simp only [Mem.zp,Mem.pb,Mem.pc])
    refine plan_extract _ 1 _ _ zr zr zr ze zr ?_
    (simp only [Mem.zp,Mem.pb,Mem.pc])
    refine plan_extract _ 2 _ _ zr zr zr ze zr ?_
    (simp only [Mem.zp,Mem.pb,Mem.pc])
    iterate 3 ((first | refine Mem.pm1 ?_ | refine Mem.pm2 ?_ | refine Mem.pt ?_ | refine Mem.pf ?_);(simp only [Mem.zp,Mem.pb,Mem.pc]))
    refine plan_nil ?_
    have o9:OwnRf w9 w5.heap.size 32 (.slice (some ⟨g,0,none⟩) N N) (WL i):=ownsRow_below O8.out Q9.out
    obtain ⟨g',cap',cur,ev,hgB,hgl,hcur,hfit,hown⟩:=own_store (i:=j) o9 (LW.out i) RW1.out (by rw [←LN.out];have:=HN.out;omega)
    injection ev with ev1 ev2 ev3
    injection ev1 with ev1
    injection ev1 with ev1 _ _
    subst ev1
    clear ev2 ev3
    rw [S2'.out,RM1.out] at hown
    have CUR:=zh hcur;have FIT:=zh hfit;have OWN:=zh hown
    have RG9:=zh (range_block RG1.out (Q9.out.block rb RL1.out))
    have B9:Hid (Below w5.heap.size w5 (w9.setRow g (Mem.splice cur (j*34) RM.toList))):=zh (below_row (B8.out.trans (Q9.out.mono B8.out.size)) hgB _)
    have hjN:(j:Int) < (N:Int):=by have:=HN.out;omega
    have hfl:(aj:Int) < (nk:Int):=by have:=HFL.out;omega
    clear o9 hgB hgl hcur hfit hown
    have hji:=JI.out
    go_wp2_with (first
     | (refine wpList_load_mid zr 32 _ zr rb (ro+aj*34) zr RM.toList _ RG9.out Tryz.underlying32 zr (by rw [infoRfP,Array.length_toList,RS1.out]) ?_;rw [Array.toArray_toList])
     | (refine wpList_store_at zr 32 _ _ zr zr g (j*34) RM (by first | rfl | (simp only [hji];rfl)) zr (by rw [RS1.out];exact infoRfP) cur 32 CUR.out (by rw [RS1.out];exact FIT.out) RO1.out ?_))
    go_roundw
    case rel=>
     exact ⟨j,by omega,by rw [←hji],S1.out,OWN.out,B9.out⟩
    case measure=>simp [intOf];omega
   ·have hy:=ERI.out he
    have HY:=zh hy
    have hne:¬ e=0:=he
    clear hy he
    go_wp2_with fail
    go_ret3
    exact ⟨_,_,by rw [HY.out];rfl,by rw [HY.out];exact SlRf.nil _,by rw [HY.out];exact sl_none _,BX8.out⟩
  ·have h00:i=0:=by omega
   subst h00
   have hft:=FTH.out wr.drew ((BX.out).drew)
   have hla:=LA.out OK.out
   have hds:=refC_size (HDW.out 0)
   obtain ⟨HM1,hHM1⟩:∃ m,m=refC (hd 0):=⟨_,rfl⟩
   have hdm:refL (hd 0)=HM1.toList:=by rw [hHM1];rfl
   rw [←hHM1] at hft hds
   obtain ⟨pg,e⟩:=FT
   simp only at hft hla
   have FTI:=zh hft;have LAI:=zh hla;have HDS:=zh hds;have HDM:=zh hdm
   clear hft hla hds hdm hHM1 h0i
   go_upto_region 15 with fail
   have D0:Hid (Below wr.heap.size wr wr.drew):=zh (Below.refl _ _).drew
   refine wp_region_plan_in (fun y=>Below wr.heap.size wr y) (.take 0 (.take 1 (.take 2 (.take 3 (.take 4 (.take 5 (.take 6 (.take 7 (.sole 8 (.take 9 (.take 10 (.take 11 (.take 12 (.take 13 .done)))))))))))))) (by kernel_rfl) (by kernel_rfl) (by kernel_rfl) D0.out ?_
   iterate 2 ((first | refine Mem.pm1 ?_ | refine Mem.pm2 ?_ | refine Mem.pt ?_ | refine Mem.pf ?_);(simp only [Mem.zp,Mem.pb,Mem.pc]))
   refine plan_row 26 _ w.heap.size _ KC 26 zr zr zr ze (fun w' hw'=>A0W.out.below hw' A0W.out.lt) Tryz.underlying26 zr (by rw [KS.out];kernel_rfl) ?_
   (simp only [Mem.zp,Mem.pb,Mem.pc])
   refine plan_row 29 _ (w.heap.size+1) _ C 29 zr zr zr ze (fun w' hw'=>A1W.out.below hw' A1W.out.lt) Tryz.underlying29 zr (by rw [CS.out];exact infoPS) ?_
   (simp only [Mem.zp,Mem.pb,Mem.pc])
   iterate 2 ((first | refine Mem.pm1 ?_ | refine Mem.pm2 ?_ | refine Mem.pt ?_ | refine Mem.pf ?_);(simp only [Mem.zp,Mem.pb,Mem.pc]))
   refine plan_index_z 51 32 _ _ g 0 N N 34 0 zr zr zr ze zr (by have:=HN.out;omega) Tryz.underlying51 infoRfP ?_
   (simp only [Mem.zp,Mem.pb,Mem.pc])
   refine plan_load_range 32 _ g (0+0*34) _ HM1 zr zr zr ze (fun w' hw'=>by rw [←HDM.out];exact HDR.out w' hw') Tryz.underlying32 zr (by rw [HDS.out];exact infoRfP) ?_
   (simp only [Mem.zp,Mem.pb,Mem.pc])
   refine plan_call 36 _ _ _ (by kernel_rfl) zr zr zr (by first | exact Mem.ev_none _ | (simp only [List.map_toArray,List.map_cons,List.map_nil,Mem.ev_tmp,List.getD_cons_succ,List.getD_cons_zero] <;> rfl)) ?_
   refine (FTI.out).mono ?_
   rintro o8 w8 ⟨vt8,rfl,hs8,hb8⟩
   have S8:=zh hs8.sl
   have Q8:Hid (Below wr.heap.size wr w8):=zh (D0.out.trans (hb8.mono (Nat.le_refl _)))
   clear hs8 hb8
   refine ⟨_,rfl,Q8.out,?_⟩
   (simp only [Mem.zp,Mem.pb,Mem.pc])
   (first | refine Mem.pm1 ?_ | refine Mem.pm2 ?_ | refine Mem.pt ?_ | refine Mem.pf ?_)
   (simp only [Mem.zp,Mem.pb,Mem.pc])
   refine plan_extract _ 0 _ _ zr zr zr ze zr ?_
   (simp only [Mem.zp,Mem.pb,Mem.pc])
   refine plan_extract _ 1 _ _ zr zr zr ze zr ?_
   (simp only [Mem.zp,Mem.pb,Mem.pc])
   iterate 2 ((first | refine Mem.pm1 ?_ | refine Mem.pm2 ?_ | refine Mem.pt ?_ | refine Mem.pf ?_);(simp only [Mem.zp,Mem.pb,Mem.pc]))
   refine plan_nil ?_
   have BX8:Hid (Below w.heap.size w w8):=zh (BX.out.trans (Q8.out.mono BX.out.size))
   by_cases he:e=0
   ·subst he
    have hy:Y=(WL 0,pg,0):=by rw [LAI.out,if_neg (fun n=>n rfl)]
    have HY:=zh hy
    have R8:Hid (SlRf w8 (.slice (some ⟨g,0,none⟩) N N) (WL 0)):=zh (own_slrf (ownsRow_below OW.out Q8.out) (LW.out 0))
    clear hy
    go_wp2_with fail
    go_ret3
    exact ⟨_,_,by rw [HY.out];rfl,by rw [HY.out];exact R8.out,by rw [HY.out];exact S8.out,BX8.out⟩
   ·have hy:Y=([],[],e):=by rw [LAI.out,if_pos he]
    have HY:=zh hy
    have hne:¬ e=0:=he
    clear hy he
    go_wp2_with fail
    go_ret3
    exact ⟨_,_,by rw [HY.out];rfl,by rw [HY.out];exact SlRf.nil _,by rw [HY.out];exact sl_none _,BX8.out⟩
theorem pway14_any {F:Foot} {b:Nat} {s:St6} (key:Lb8) (p:Nat) (r:RefV) (z:Int) (w:World) (hT:TT w) (lk:key.length=32) (hp:PSt F b w s) (hok:Ok6 1000 s) (hw0:s.w=[]) (h0:1≤p) (h1:p≤216) (hrw:r.Wf) :
 Calls Tryz.prog 15 #[.pointer none,rq b,.agg (u8s key).toArray,.agg (psC p),.agg (refC r),.int .i64 z] w (WyEnd w (wayT s.b key p r z)):=by
 by_cases hz:z < 0∨(p:Int)≤z
 ·have e:wayT s.b key p r z=([],[],1):=by unfold wayT;rw [if_pos hz]
  rw [e]
  exact pway_none key p r z w h1 hz
 ·obtain ⟨x,rfl⟩:∃ x:Nat,z=(x:Int):=⟨z.toNat,by omega⟩
  exact pway_some key p r x w hT lk hp hok hw0 h0 h1 hrw (by omega)
theorem fetchT_le (B key:Lb8) (p:Nat) (z:Int) (r:RefV):(fetchT B key p z r).1.length≤1000:=by
 unfold fetchT
 split
 ·simp
 ·have hb:(blkOf B (BZ p z r.pl).toNat).length≤256:=by unfold blkOf;rw [List.length_take];omega
  unfold openR
  split
  ·simp
  ·split
   all_goals first | (show ([]:Lb8).length≤1000;simp;done) | (show (sealL _ _ _ _).length≤1000;rw [sealL_length];omega)
theorem own_lit_rf {w:World} {B:Nat} {r:RefV} {e:TypeId} (hr:r.Wf) (hB:B≤w.heap.size):OwnRf (w.alloc (.cells (refC r) e)) B e (.slice (some ⟨w.heap.size,0,none⟩) 1 1) [r]:=by
 have h:=World.ownsRow_lit (size:=34) (e:=e) w (refC r) 1 hB (by decide) (by rw [refC_size hr])
 show World.ownsRow _ _ _ _ _ 1 (refCs [r])
 rw [show refCs [r]=(refC r).toList by simp [refCs];rfl]
 exact h
theorem rway_none (B key:Lb8) (p:Nat) (r:RefV) (z:Int) (v vL vF:Value) (w:World) (hv:Sl w v B) (hR:RS w p vL vF) (h0:1≤p) (h1:p≤216) (hz:z < 0∨(p:Int)≤z) :
 Calls Tryz.prog 16 #[v,.agg (u8s key).toArray,.agg (rsC p vL vF),.agg (refC r),.int .i64 z] w (WyEnd w ([],[],1)):=by
 have pt:=fun wx (h:Below w.heap.size w wx)=>rpath_any p vL vF z wx (hR.below h) h0 h1
 have hw:WZ p z=[]:=by unfold WZ;rw [if_neg (by omega)]
 rw [hw] at pt
 unfold WyEnd
 show Calls _ _ _ _ (fun e w'=>∃ vr vp,e=.returned (.tuple #[vr,vp,.int .i64 1])∧SlRf w' vr []∧Sl w' vp []∧Below w.heap.size w w')
 obtain ⟨M,hM⟩:∃ M,M=refC r:=⟨_,rfl⟩
 obtain ⟨KC,hKC⟩:∃ K,K=(u8s key).toArray:=⟨_,rfl⟩
 have cs:(rsC p vL vF).size=3:=rfl
 obtain ⟨C,hC⟩:∃ C,C=rsC p vL vF:=⟨_,rfl⟩
 rw [←hM,←hKC]
 rw [←hC] at pt cs ⊢
 obtain ⟨av,cv,rfl⟩:=sl_inv hv
 have a1:At (((w.alloc (.cells KC 26)).alloc (.cells C 47)).alloc (.cells M 57)) (w.heap.size+1) C 47:=by
  have h:=(at_new (w.alloc (.cells KC 26)) C 47).alloc (.cells M 57)
  simpa using h
 have b4:Below w.heap.size w (((w.alloc (.cells KC 26)).alloc (.cells C 47)).alloc (.cells M 57)):=(((Below.refl _ _).alloc (Nat.le_refl _) _).alloc (by simp) _).alloc (by simp;omega) _
 have PT:=zh pt;have CS:=zh cs;have A1:=zh a1;have B4:=zh b4
 clear pt cs a1 b4 hM hKC hC hw hz hv hR
 go_enter Tryz.func16,Tryz.ntmps16
 go_upto_region 1 with fail
 generalize ((w.alloc (.cells KC 26)).alloc (.cells C 47)).alloc (.cells M 57)=w4 at *
 go_wp2_with (refine wpList_load_all zr 47 _ zr (w.heap.size+1) zr _ Tryz.underlying47 zr C _ A1.out (by rw [CS.out];exact infoRS) ?_)
 refine (PT.out _ B4.out).mono ?_
 rintro e w5 ⟨vk,rfl,hk,hb5⟩
 obtain ⟨ak,ck,rfl⟩:=(ownV_sli hk).hdn (n:=0) rfl
 have B5:=zh (B4.out.trans (hb5.mono B4.out.size))
 clear hk hb5
 go_wp2_with fail
 go_ret3
 exact ⟨_,_,rfl,SlRf.nil _,sl_none _,B5.out⟩
theorem rway_some (B key:Lb8) (p:Nat) (root:RefV) (x:Nat) (v vL vF:Value) (w:World) (lk:key.length=32) (hv:Sl w v B) (hBl:B.length≤1000000) (hR:RS w p vL vF) (h0:1≤p) (h1:p≤216) (hrw:root.Wf) (hx:x < p) :
 Calls Tryz.prog 16 #[v,.agg (u8s key).toArray,.agg (rsC p vL vF),.agg (refC root),.int .i64 (x:Int)] w (WyEnd w (wayT B key p root (x:Int))):=by
 have htop:=top_le p
 have pt:=fun wx (h:Below w.heap.size w wx)=>rpath_any p vL vF (x:Int) wx (hR.below h) h0 h1
 have hw:WZ p (x:Int)=pathZ p x (topn p+1):=by unfold WZ;rw [if_pos ⟨by omega,by omega⟩,Int.toNat_natCast]
 rw [hw] at pt
 have kl:=pathZ_length p x (topn p+1)
 have kg:∀ i,i < topn p+1→(pathZ p x (topn p+1)).getD i 0=(itp p x i:Int):=fun i hi=>by simp [pathZ,List.getD_eq_getElem?_getD,hi]
 obtain ⟨K,hK⟩:∃ K,K=pathZ p x (topn p+1):=⟨_,rfl⟩
 rw [←hK] at pt kl kg
 have ft0:=fun (z:Int) (r:RefV) wx (h:Below w.heap.size w wx) (hr:r.Wf)=>rfetch14_own B key p z r v vL vF wx lk (hv.below h) hBl (hR.below h) h1 hr
 have kd0:=fun (z:Int) (pg:Lb8) vx wx (h:Below w.heap.size w wx) (hs:Sl wx vx pg) (hl:pg.length≤1000)=>rkids14_own p z pg vx vL vF wx hs hl (hR.below h) h0 h1
 have par:=fun (i:Nat) wx (h:Below w.heap.size w wx)=>rparent_any p vL vF (itp p x i:Int) wx (hR.below h) h0 h1
 have hpz:=fun i (hi:i < topn p)=>itp_par p x i h0 h1 hx hi
 have hch:=fun m (hm:m < topn p)=>itp_child p x m h0 h1 hx hm
 obtain ⟨T,hTp⟩:∃ T,T=topn p:=⟨_,rfl⟩
 obtain ⟨ok,hokf⟩:∃ f:Nat→Int,f=fun i=>(wayG B key p root x (T - i)).2:=⟨_,rfl⟩
 obtain ⟨WG,hWG⟩:∃ f:Nat→List RefV,f=fun i=>(wayG B key p root x (T - i)).1:=⟨_,rfl⟩
 obtain ⟨hd,hhd⟩:∃ f:Nat→RefV,f=fun i=>(WG i).getD 0 zref:=⟨_,rfl⟩
 obtain ⟨ft2,hft2⟩:∃ f:Nat→Lb8 × Int,f=fun i=>fetchT B key p (itp p x i:Int) (hd i):=⟨_,rfl⟩
 obtain ⟨kd2,hkd2⟩:∃ f:Nat→List RefV × Int,f=fun i=>kidsT p (itp p x i:Int) (ft2 i).1:=⟨_,rfl⟩
 obtain ⟨aw,haw⟩:∃ f:Nat→Nat,f=fun i=>(parN p (itp p x i)).2:=⟨_,rfl⟩
 have l0:WG T=[root]:=by rw [hWG];show (wayG B key p root x (T - T)).1=_;rw [Nat.sub_self];rfl
 have o0:ok T=0:=by rw [hokf];show (wayG B key p root x (T - T)).2=0;rw [Nat.sub_self];rfl
 have ll:∀ i,i≤T→ok i=0→(WG i).length=T - i+1:=fun i _ h=>by
  rw [hokf] at h;rw [hWG];exact wayG_length _ h
 have lw:∀ i,∀ r∈WG i,r.Wf:=fun i=>by rw [hWG];exact wayG_wf hrw x _
 have hdw:∀ i,(hd i).Wf:=fun i=>by rw [hhd];exact getD_wf (lw i) 0
 have hdd:∀ i,(WG i).getD 0 zref=hd i:=fun i=>by rw [hhd]
 have fkE:∀ i,fkT B key p (itp p x i:Int) (hd i)=if (ft2 i).2≠0 then ([],(ft2 i).2) else kd2 i:=fun i=>by rw [hkd2,hft2];rfl
 have st1:∀ i,0 < i→i≤T→ok i=0→wayG B key p root x (T - (i - 1))=if (fkT B key p (itp p x i:Int) (hd i)).2≠0 then ([],(fkT B key p (itp p x i:Int) (hd i)).2) else ((fkT B key p (itp p x i:Int) (hd i)).1.getD (aw (i - 1)) zref::WG i,0):=fun i hi hl h=>by
  rw [hokf] at h
  have s1:=wayG_step h
  have e1:topn p - (T - i)=i:=by omega
  have e2:topn p - (T - i+1)=i - 1:=by omega
  have e3:T - (i - 1)=T - i+1:=by omega
  rw [e1,e2] at s1
  rw [e3,s1,hhd,hWG,haw]
 have st:∀ i,0 < i→i≤T→ok i=0→(ft2 i).2=0→(kd2 i).2=0→ok (i - 1)=0∧WG (i - 1)=(kd2 i).1.getD (aw (i - 1)) zref::WG i:=fun i hi hl h h2 h3=>by
  have s1:=st1 i hi hl h
  have e9:fkT B key p (itp p x i:Int) (hd i)=kd2 i:=by rw [fkE i,if_neg (fun n=>n h2)]
  rw [e9,if_neg (fun n=>n h3)] at s1
  refine ⟨by rw [hokf];show (wayG B key p root x (T - (i - 1))).2=0;rw [s1],?_⟩
  have e:WG (i - 1)=(wayG B key p root x (T - (i - 1))).1:=by rw [hWG]
  rw [e,s1]
 have er1:∀ i,0 < i→i≤T→ok i=0→(ft2 i).2≠0→wayT B key p root (x:Int)=([],[],(ft2 i).2):=fun i hi hl h h2=>by
  have s1:=st1 i hi hl h
  have e9:fkT B key p (itp p x i:Int) (hd i)=([],(ft2 i).2):=by rw [fkE i,if_pos h2]
  rw [e9,if_pos h2] at s1
  exact wayT_err hx (k:=T - (i - 1)) (by omega) (by rw [s1]) h2
 have er2:∀ i,0 < i→i≤T→ok i=0→(ft2 i).2=0→(kd2 i).2≠0→wayT B key p root (x:Int)=([],[],(kd2 i).2):=fun i hi hl h h2 h3=>by
  have s1:=st1 i hi hl h
  have e9:fkT B key p (itp p x i:Int) (hd i)=kd2 i:=by rw [fkE i,if_neg (fun n=>n h2)]
  rw [e9,if_pos h3] at s1
  exact wayT_err hx (k:=T - (i - 1)) (by omega) (by rw [s1]) h3
 have fl:∀ i,0 < i→i≤T→(ft2 i).2=0→(kd2 i).2=0→aw (i - 1) < (kd2 i).1.length:=fun i hi hl h2 h=>by
  have hc:=hch (i - 1) (by omega)
  rw [show i - 1+1=i by omega] at hc
  have g:=fkT_len (B:=B) (key:=key) (x:=hd i) hc.2.2.2.1 hc.2.2.2.2 (by rw [fkE i,if_neg (fun n=>n h2)];exact h)
  rw [fkE i,if_neg (fun n=>n h2)] at g
  rw [g,haw]
  exact hc.2.1
 have pz:∀ i,0 < i→i≤T→PZ p (itp p x (i - 1):Int)=((itp p x i:Int),(aw (i - 1):Int),true):=fun i hi hl=>by
  have h:=hpz (i - 1) (by omega)
  rw [show i - 1+1=i by omega] at h
  rw [h,haw]
 have fkw:∀ i,∀ r∈(kd2 i).1,r.Wf:=fun i=>by rw [hkd2];exact kidsT_wf _ _ _
 have hla:ok 0=0→wayT B key p root (x:Int)=if (fetchT B key p (x:Int) (hd 0)).2≠0 then ([],[],(fetchT B key p (x:Int) (hd 0)).2) else (WG 0,(fetchT B key p (x:Int) (hd 0)).1,0):=fun h=>by
  rw [hokf] at h
  have g:=wayT_last (B:=B) (key:=key) (p:=p) (root:=root) hx (by rw [←hTp];exact h)
  have e9:WG 0=(wayG B key p root x (topn p)).1:=by rw [hWG];show (wayG B key p root x (T - 0)).1=_;rw [Nat.sub_zero,hTp]
  have e8:hd 0=(wayG B key p root x (topn p)).1.getD 0 zref:=by rw [hhd,←e9]
  rw [g,e8,e9]
 have ftc:∀ i wx,Below w.heap.size w wx→Calls Tryz.prog 37 #[v,.agg (u8s key).toArray,.agg (rsC p vL vF),.int .i64 (itp p x i:Int),.agg (refC (hd i))] wx (SealOwn wx (ft2 i).1 (ft2 i).2):=fun i wx h=>by rw [hft2];exact ft0 _ (hd i) wx h (hdw i)
 have ftl:∀ i,(ft2 i).1.length≤1000:=fun i=>by rw [hft2];exact fetchT_le _ _ _ _ _
 have kdc:∀ i vx wx,Below w.heap.size w wx→Sl wx vx (ft2 i).1→Calls Tryz.prog 38 #[.agg (rsC p vL vF),.int .i64 (itp p x i:Int),vx] wx (RfOwn 57 wx (kd2 i).1 (kd2 i).2):=fun i vx wx h hs=>by rw [hkd2];exact kd0 _ _ vx wx h hs (ftl i)
 have ftx:=fun wx h=>ft0 (x:Int) (hd 0) wx h (hdw 0)
 clear ft0 kd0
 obtain ⟨FT,hFT⟩:∃ f,f=fetchT B key p (x:Int) (hd 0):=⟨_,rfl⟩
 rw [←hFT] at ftx hla
 obtain ⟨Y,hY⟩:∃ Y,Y=wayT B key p root (x:Int):=⟨_,rfl⟩
 rw [←hY] at er1 er2 hla ⊢
 obtain ⟨it,hit⟩:∃ f:Nat→Nat,f=itp p x:=⟨_,rfl⟩
 rw [←hit] at kg ftc kdc par pz
 rw [←hTp] at kl kg htop
 have rs:=refC_size hrw;have ro:=refC_one root
 have rbt:=built_rr root hrw
 have olit:=fun wx B (hB:B≤wx.heap.size)=>own_lit_rf (w:=wx) (B:=B) (e:=57) hrw hB
 obtain ⟨M,hM⟩:∃ M,M=refC root:=⟨_,rfl⟩
 have kc:(u8s key).toArray.size=32:=by simp [u8s_length,lk]
 obtain ⟨KC,hKC⟩:∃ K,K=(u8s key).toArray:=⟨_,rfl⟩
 have cs:(rsC p vL vF).size=3:=rfl
 obtain ⟨C,hC⟩:∃ C,C=rsC p vL vF:=⟨_,rfl⟩
 rw [←hM] at rs ro rbt olit ⊢
 rw [←hKC] at kc ftc ftx ⊢
 rw [←hC] at pt ftc ftx kdc par cs ⊢
 have a0:At (((w.alloc (.cells KC 26)).alloc (.cells C 47)).alloc (.cells M 57)) w.heap.size KC 26:=((at_new w KC _).alloc _).alloc _
 have a1:At (((w.alloc (.cells KC 26)).alloc (.cells C 47)).alloc (.cells M 57)) (w.heap.size+1) C 47:=by
  have h:=(at_new (w.alloc (.cells KC 26)) C 47).alloc (.cells M 57)
  simpa using h
 have a2:At (((w.alloc (.cells KC 26)).alloc (.cells C 47)).alloc (.cells M 57)) (w.heap.size+1+1) M 57:=by
  have h:=at_new ((w.alloc (.cells KC 26)).alloc (.cells C 47)) M 57
  simpa using h
 have b4:Below w.heap.size w (((w.alloc (.cells KC 26)).alloc (.cells C 47)).alloc (.cells M 57)):=(((Below.refl _ _).alloc (Nat.le_refl _) _).alloc (by simp) _).alloc (by simp;omega) _
 unfold WyEnd
 obtain ⟨av,cv,rfl⟩:=sl_inv hv
 obtain ⟨NB,hNB⟩:∃ n,n=B.length:=⟨_,rfl⟩
 rw [←hNB] at ftc ftx ⊢
 have PT:=zh pt;have KL:=zh kl;have KG:=zh kg;have L0:=zh l0;have O0:=zh o0;have LL:=zh ll;have HDW:=zh hdw;have HDD:=zh hdd;have LW:=zh lw;have ST:=zh st;have ER1:=zh er1;have ER2:=zh er2;have FL:=zh fl;have PZH:=zh pz;have FKW:=zh fkw;have LA:=zh hla;have FTC:=zh ftc;have KDC:=zh kdc;have FTX:=zh ftx;have PAR:=zh par
 have RS1:=zh rs;have RO:=zh ro;have RB:=zh rbt;have OL:=zh olit;have KS:=zh kc;have CS:=zh cs
 have A0:=zh a0;have A1:=zh a1;have A2:=zh a2;have B4:=zh b4
 clear pt kl kg l0 o0 ll hdw hdd lw st er1 er2 fl pz fkw hla ftc kdc ftx par rs ro rbt olit kc cs a0 a1 a2 b4 hM hKC hC hFT hY hit st1 fkE ftl hokf hWG hhd hft2 hkd2 haw hTp hK hpz hch hw lk hv hBl hR hrw h0 h1 hx hNB
 go_enter Tryz.func16,Tryz.ntmps16
 go_upto_region 1 with fail
 generalize ((w.alloc (.cells KC 26)).alloc (.cells C 47)).alloc (.cells M 57)=w4 at *
 go_wp2_with (refine wpList_load_all zr 47 _ zr (w.heap.size+1) zr _ Tryz.underlying47 zr C _ A1.out (by rw [CS.out];exact infoRS) ?_)
 refine (PT.out _ B4.out).mono ?_
 rintro e w5 ⟨vk,rfl,hk0,hb5⟩
 have hk:=ownV_sli hk0
 obtain ⟨N,hN⟩:∃ N,N=T+1:=⟨_,rfl⟩
 rw [←hN] at KL
 obtain ⟨ak,ck,rfl⟩:=hk.hdn KL.out
 have HK:=zh hk;have B5:=zh (B4.out.trans (hb5.mono B4.out.size));have A05:=zh (A0.out.below hb5 A0.out.lt);have A15:=zh (A1.out.below hb5 A1.out.lt);have A25:=zh (A2.out.below hb5 A2.out.lt)
 have nn0:¬ (N:Int)=0:=by omega
 have NT:Hid ((N:Int) - 1=(T:Int)):=zh (by omega)
 have hN9:N≤4:=by omega
 have hTN:(T:Int) < (N:Int):=by omega
 have HN:=zh hN
 clear hk hk0 hb5 A0 A1 A2 B4 hN htop
 have OL6:Hid (OwnRf (w5.alloc (.cells M 57)) w5.heap.size 57 (.slice (some ⟨w5.heap.size,0,none⟩) 1 1) (WG T)):=zh (by rw [L0.out];exact OL.out w5 _ (Nat.le_refl _))
 have B6:Hid (Below w5.heap.size w5 (w5.alloc (.cells M 57))):=zh ((Below.refl _ _).alloc (Nat.le_refl _) _)
 go_upto_region 5 with (first
  | (refine wpList_load_all zr 57 _ zr (w.heap.size+1+1) zr _ Tryz.underlying57 zr M _ A25.out (by rw [RS1.out];exact infoRfR) ?_)
  | ((refine Go.Great.wpList_buildSliceTo zr 54 57 1 _ zr _ zr _ zr Tryz.underlying54 M (by first | (simp [Act.eval,Act.put];exact RB.out) | (go_simp;exact RB.out) | (simp only [List.map_toArray,List.map_cons,List.map_nil];exact RB.out)) ?_)))
 obtain ⟨VR,hVR⟩:∃ V,V=Value.slice (some ⟨w5.heap.size,0,none⟩) 1 1:=⟨_,rfl⟩
 rw [←hVR] at OL6 ⊢
 clear hVR
 generalize (w5.alloc (.cells M 57))=w6 at *
 go_upto_region 6 with fail
 rw [NT.out]
 obtain ⟨kb,ko,ea,_,_⟩:=sli_at (i:=0) HK.out KL.out.symm (by have:=HN.out;omega)
 subst ea
 go_wp2_with fail
 go_loopw [14,15] (fun va vi wr=>∃ vr:Value,vr=va∧∃ i:Nat,i≤T∧vi=.int .i64 (i:Int)∧ok i=0∧OwnRf wr w5.heap.size 57 vr (WG i)∧Below w5.heap.size w5 wr) (fun _ vi _=>(intOf vi).toNat)
 case atStart=>exact ⟨_,rfl,T,Nat.le_refl _,rfl,O0.out,OL6.out,B6.out⟩
 case round=>
  clear OL6 B6
  obtain ⟨vr,rfl,i,hi,rfl,hk0,ho,hbw⟩:=hrel
  have OW:=zh ho;have BW:=zh hbw;have OK:=zh hk0
  have BX:Hid (Below w.heap.size w wr):=zh (B5.out.trans (hbw.mono B5.out.size))
  have A0W:=zh (A05.out.below hbw A05.out.lt);have A1W:=zh (A15.out.below hbw A15.out.lt)
  have SW:=zh (own_slrf ho (LW.out i))
  have hln:=LL.out i hi hk0
  obtain ⟨nr,hnr⟩:∃ n,n=T - i+1:=⟨_,rfl⟩
  rw [←hnr] at hln
  have LN:=zh hln
  obtain ⟨ar0,cr,rfl⟩:=rows_hd ho
  rw [hln] at OW SW ⊢
  obtain ⟨rb0,ro0,ea,hrl0,_⟩:=slrf_at (i:=0) SW.out LN.out.symm (by omega)
  subst ea
  have hkc:∀ j,j≤T→∀ y,Below wr.heap.size wr y→y.cell? ⟨kb,ko+j,none⟩=some (.int .i64 (it j:Int)):=fun j hj y hy=>by
   have h:=sli_cell (i:=j) ((HK.out.below hbw).below hy) KL.out.symm (by have:=HN.out;omega)
   rw [KG.out j (by omega)] at h
   exact h
  have hdr:∀ y,Below wr.heap.size wr y→y.rangeAt rb0 (ro0+0*34) (refL (hd i)):=fun y hy=>by
   have h:=slrf_cell (i:=0) (SW.out.below hy) LN.out.symm (by omega)
   rw [HDD.out i] at h
   exact h
  have KC1:=zh hkc;have HDR:=zh hdr
  have NR0:0 < nr:=by omega
  have NR9:nr≤5:=by omega
  have HNR:=zh hnr
  clear ho hbw hk0 hln hkc hdr SW hrl0 hnr
  by_cases h0i:0 < i
  ·have hpos:(i:Int) > 0:=by omega
   have hpos2:¬ (i:Int)≤0:=by omega
   have hfc:=FTC.out i wr.drew ((BX.out).drew)
   have hkc:=KDC.out i
   have he1:=ER1.out i h0i hi OK.out
   have he2:=ER2.out i h0i hi OK.out
   have hst:=ST.out i h0i hi OK.out
   have hfl:=FL.out i h0i hi
   have hpz:=PZH.out i h0i hi
   have hfw:=FKW.out i
   have hpr:=PAR.out (i - 1)
   rw [hpz] at hpr
   have hds:=refC_size (HDW.out i)
   obtain ⟨HM1,hHM1⟩:∃ m,m=refC (hd i):=⟨_,rfl⟩
   have hdm:refL (hd i)=HM1.toList:=by rw [hHM1];rfl
   rw [←hHM1] at hfc hds
   obtain ⟨pg,e,hpe⟩:∃ a c,ft2 i=(a,c):=⟨_,_,rfl⟩
   obtain ⟨kL,f,hke⟩:∃ a c,kd2 i=(a,c):=⟨_,_,rfl⟩
   rw [hpe] at hfc hkc he1 he2 hst hfl
   rw [hke] at hkc he2 hst hfl hfw
   simp only at hfc hkc he1 he2 hst hfl hfw
   have FCI:=zh hfc;have KCI:=zh hkc;have E1I:=zh he1;have E2I:=zh he2;have STI:=zh hst;have FLI:=zh hfl;have FWI:=zh hfw;have PRI:=zh hpr;have HDS:=zh hds;have HDM:=zh hdm
   clear hfc hkc he1 he2 hst hfl hpz hfw hpr hds hdm hHM1 hpe hke
   go_upto_region 8 with fail
   have D0:Hid (Below wr.heap.size wr wr.drew):=zh (Below.refl _ _).drew
   refine wp_region_plan_in (fun y=>Below wr.heap.size wr y) (.take 0 (.take 1 (.take 2 (.take 3 (.take 4 (.take 5 (.take 6 (.take 7 (.take 8 (.take 9 (.sole 10 (.take 11 (.take 12 (.take 13 (.take 14 (.take 15 .done)))))))))))))))) (by kernel_rfl) (by kernel_rfl) (by kernel_rfl) D0.out ?_
   (first | refine Mem.pm1 ?_ | refine Mem.pm2 ?_ | refine Mem.pt ?_ | refine Mem.pf ?_)
   (simp only [Mem.zp,Mem.pb,Mem.pc])
   refine plan_row 26 _ w.heap.size _ KC 26 zr zr zr ze (fun w' hw'=>A0W.out.below hw' A0W.out.lt) Tryz.underlying26 zr (by rw [KS.out];kernel_rfl) ?_
   (simp only [Mem.zp,Mem.pb,Mem.pc])
   refine plan_row 47 _ (w.heap.size+1) _ C 47 zr zr zr ze (fun w' hw'=>A1W.out.below hw' A1W.out.lt) Tryz.underlying47 zr (by rw [CS.out];exact infoRS) ?_
   (simp only [Mem.zp,Mem.pb,Mem.pc])
   iterate 2 ((first | refine Mem.pm1 ?_ | refine Mem.pm2 ?_ | refine Mem.pt ?_ | refine Mem.pf ?_);(simp only [Mem.zp,Mem.pb,Mem.pc]))
   refine plan_index 45 3 _ _ kb ko N ck i zr zr zr ze ze (by have:=HN.out;omega) Tryz.underlying45 infoInt ?_
   (simp only [Mem.zp,Mem.pb,Mem.pc])
   refine plan_cell 3 _ _ (.int .i64 (it i:Int)) _ zr zr zr ze (fun w' hw'=>KC1.out i hi w' hw') Tryz.underlying3 zr ?_
   (simp only [Mem.zp,Mem.pb,Mem.pc])
   (first | refine Mem.pm1 ?_ | refine Mem.pm2 ?_ | refine Mem.pt ?_ | refine Mem.pf ?_)
   (simp only [Mem.zp,Mem.pb,Mem.pc])
   refine plan_index_z 54 57 _ _ rb0 ro0 nr cr 34 0 zr zr zr ze zr NR0 Tryz.underlying54 infoRfR ?_
   (simp only [Mem.zp,Mem.pb,Mem.pc])
   refine plan_load_range 57 _ rb0 (ro0+0*34) _ HM1 zr zr zr ze (fun w' hw'=>by rw [←HDM.out];exact HDR.out w' hw') Tryz.underlying57 zr (by rw [HDS.out];exact infoRfR) ?_
   (simp only [Mem.zp,Mem.pb,Mem.pc])
   refine plan_call 37 _ _ _ (by kernel_rfl) zr zr zr (by first | exact Mem.ev_none _ | (simp only [List.map_toArray,List.map_cons,List.map_nil,Mem.ev_tmp,List.getD_cons_succ,List.getD_cons_zero] <;> rfl)) ?_
   refine (FCI.out).mono ?_
   rintro o8 w8 ⟨vt8,rfl,ho8,hb8⟩
   have S8:=zh (OwnB.sl ho8)
   have Q8:Hid (Below wr.heap.size wr w8):=zh (D0.out.trans (hb8.mono (Nat.le_refl _)))
   clear ho8 hb8
   refine ⟨_,rfl,Q8.out,?_⟩
   (simp only [Mem.zp,Mem.pb,Mem.pc])
   (first | refine Mem.pm1 ?_ | refine Mem.pm2 ?_ | refine Mem.pt ?_ | refine Mem.pf ?_)
   (simp only [Mem.zp,Mem.pb,Mem.pc])
   refine plan_extract _ 0 _ vt8 zr zr zr ze zr ?_
   (simp only [Mem.zp,Mem.pb,Mem.pc])
   refine plan_extract _ 1 _ (.int .i64 e) zr zr zr ze zr ?_
   (simp only [Mem.zp,Mem.pb,Mem.pc])
   iterate 2 ((first | refine Mem.pm1 ?_ | refine Mem.pm2 ?_ | refine Mem.pt ?_ | refine Mem.pf ?_);(simp only [Mem.zp,Mem.pb,Mem.pc]))
   refine plan_nil ?_
   have BX8:Hid (Below w.heap.size w w8):=zh (BX.out.trans (Q8.out.mono BX.out.size))
   by_cases he:e=0
   ·subst he
    have A18:=zh (A1W.out.below Q8.out A1W.out.lt)
    have KC2:Hid (∀ j,j≤T→∀ y,Below w8.heap.size w8 y→y.cell? ⟨kb,ko+j,none⟩=some (.int .i64 (it j:Int))):=zh fun j hj y hy=>KC1.out j hj y (Q8.out.trans (hy.mono Q8.out.size))
    go_upto_region 11 with fail
    have D8:Hid (Below w8.heap.size w8 w8.drew):=zh (Below.refl _ _).drew
    refine wp_region_plan_in (fun y=>Below w8.heap.size w8 y) (.take 0 (.take 1 (.take 2 (.take 3 (.take 4 (.take 5 (.sole 6 (.take 7 (.take 8 (.take 9 (.take 10 (.take 11 .done)))))))))))) (by kernel_rfl) (by kernel_rfl) (by kernel_rfl) D8.out ?_
    refine plan_row 47 _ (w.heap.size+1) _ C 47 zr zr zr ze (fun w' hw'=>A18.out.below hw' A18.out.lt) Tryz.underlying47 zr (by rw [CS.out];exact infoRS) ?_
    (simp only [Mem.zp,Mem.pb,Mem.pc])
    iterate 2 ((first | refine Mem.pm1 ?_ | refine Mem.pm2 ?_ | refine Mem.pt ?_ | refine Mem.pf ?_);(simp only [Mem.zp,Mem.pb,Mem.pc]))
    refine plan_index 45 3 _ _ kb ko N ck i zr zr zr ze ze (by have:=HN.out;omega) Tryz.underlying45 infoInt ?_
    (simp only [Mem.zp,Mem.pb,Mem.pc])
    refine plan_cell 3 _ _ (.int .i64 (it i:Int)) _ zr zr zr ze (fun w' hw'=>KC2.out i hi w' hw') Tryz.underlying3 zr ?_
    (simp only [Mem.zp,Mem.pb,Mem.pc])
    (first | refine Mem.pm1 ?_ | refine Mem.pm2 ?_ | refine Mem.pt ?_ | refine Mem.pf ?_)
    (simp only [Mem.zp,Mem.pb,Mem.pc])
    refine plan_call 38 _ _ _ (by kernel_rfl) zr zr zr (by first | exact Mem.ev_none _ | (simp only [List.map_toArray,List.map_cons,List.map_nil,Mem.ev_tmp,List.getD_cons_succ,List.getD_cons_zero] <;> rfl)) ?_
    refine (KCI.out _ _ (BX8.out.drew) (S8.out.below D8.out)).mono ?_
    rintro o9 w9 ⟨vk9,rfl,hr9,hb9⟩
    have R9:=zh hr9
    have Q9:Hid (Below w8.heap.size w8 w9):=zh (D8.out.trans (hb9.mono (Nat.le_refl _)))
    clear hr9 hb9
    refine ⟨_,rfl,Q9.out,?_⟩
    (simp only [Mem.zp,Mem.pb,Mem.pc])
    (first | refine Mem.pm1 ?_ | refine Mem.pm2 ?_ | refine Mem.pt ?_ | refine Mem.pf ?_)
    (simp only [Mem.zp,Mem.pb,Mem.pc])
    refine plan_extract _ 0 _ vk9 zr zr zr ze zr ?_
    (simp only [Mem.zp,Mem.pb,Mem.pc])
    refine plan_extract _ 1 _ (.int .i64 f) zr zr zr ze zr ?_
    (simp only [Mem.zp,Mem.pb,Mem.pc])
    iterate 2 ((first | refine Mem.pm1 ?_ | refine Mem.pm2 ?_ | refine Mem.pt ?_ | refine Mem.pf ?_);(simp only [Mem.zp,Mem.pb,Mem.pc]))
    refine plan_nil ?_
    have BX9:Hid (Below w.heap.size w w9):=zh (BX8.out.trans (Q9.out.mono BX8.out.size))
    obtain ⟨ak9,ck9,rfl⟩:=rows_hd R9.out
    by_cases hf:f=0
    ·subst hf
     have hfl:=FLI.out rfl rfl
     obtain ⟨s1,s2⟩:=STI.out rfl rfl
     have A19:=zh (A18.out.below Q9.out A18.out.lt)
     have O9:Hid (OwnRf w9 w5.heap.size 57 (.slice (some ⟨rb0,ro0,none⟩) nr cr) (WG i)):=zh (by
      exact ownsRow_below (ownsRow_below OW.out Q8.out) Q9.out)
     have B9:Hid (Below w5.heap.size w5 w9):=zh ((BW.out.trans (Q8.out.mono BW.out.size)).trans (Q9.out.mono (Nat.le_trans BW.out.size Q8.out.size)))
     obtain ⟨j,hj⟩:∃ j,j=i - 1:=⟨_,rfl⟩
     rw [←hj] at PRI s1 s2 hfl
     have hji:(i:Int) - 1=(j:Int):=by omega
     have JI:=zh hji
     have hj9:j < T:=by omega
     obtain ⟨aj,haj⟩:∃ aj,aj=aw j:=⟨_,rfl⟩
     rw [←haj] at PRI s2 hfl
     obtain ⟨rr,hrr⟩:∃ r,r=kL.getD aj zref:=⟨_,rfl⟩
     rw [←hrr] at s2
     have hrw:rr.Wf:=by rw [hrr];exact getD_wf FWI.out aj
     obtain ⟨rb,ro,ea,hrl,hrg⟩:=slrf_at (i:=aj) (own_slrf R9.out FWI.out) rfl hfl
     rw [←hrr] at hrg
     subst ea
     have rs1:=refC_size hrw
     have rbt:=built_rr rr hrw
     have olit:=fun wx B (hB:B≤wx.heap.size)=>own_lit_rf (w:=wx) (B:=B) (e:=57) hrw hB
     obtain ⟨RM,hRM⟩:∃ m,m=refC rr:=⟨_,rfl⟩
     have hrm1:refL rr=RM.toList:=by rw [hRM];rfl
     rw [←hRM] at rs1 rbt olit
     rw [hrm1] at hrg
     have HFL:=zh hfl;have S1:=zh s1;have S2':=zh s2;have RS2:=zh rs1;have RB2:=zh rbt;have OL2:=zh olit;have RG1:=zh hrg;have RL1:=zh hrl;have RW2:=zh hrw
     have KC3:Hid (∀ y,Below w9.heap.size w9 y→y.cell? ⟨kb,ko+j,none⟩=some (.int .i64 (it j:Int))):=zh fun y hy=>KC2.out j (by omega) y (Q9.out.trans (hy.mono Q9.out.size))
     clear hfl s1 s2 hrw rs1 rbt olit hrm1 hrg hrl hRM hrr haj hji hj KC2 KC1
     obtain ⟨nk,hnk⟩:∃ nk,nk=kL.length:=⟨_,rfl⟩
     rw [←hnk] at HFL ⊢
     go_upto_region 14 with fail
     have D9:Hid (Below w9.heap.size w9 w9.drew):=zh (Below.refl _ _).drew
     refine wp_region_plan_in (fun y=>Below w9.heap.size w9 y) (.take 0 (.take 1 (.take 2 (.take 3 (.take 4 (.take 5 (.sole 6 (.take 7 (.take 8 (.take 9 (.take 10 (.take 11 (.take 12 (.take 13 .done)))))))))))))) (by kernel_rfl) (by kernel_rfl) (by kernel_rfl) D9.out ?_
     refine plan_row 47 _ (w.heap.size+1) _ C 47 zr zr zr ze (fun w' hw'=>A19.out.below hw' A19.out.lt) Tryz.underlying47 zr (by rw [CS.out];exact infoRS) ?_
     (simp only [Mem.zp,Mem.pb,Mem.pc])
     iterate 2 ((first | refine Mem.pm1 ?_ | refine Mem.pm2 ?_ | refine Mem.pt ?_ | refine Mem.pf ?_);(simp only [Mem.zp,Mem.pb,Mem.pc]))
     refine plan_bin _ _ _ _ _ _ _ (.int .i64 (j:Int)) zr zr zr ze ze (fun wx=>by rw [←JI.out];go_simp;exact i64_id _ (by omega) (by omega)) ?_
     (simp only [Mem.zp,Mem.pb,Mem.pc])
     refine plan_index 45 3 _ _ kb ko N ck j zr zr zr ze ze (by have:=HN.out;omega) Tryz.underlying45 infoInt ?_
     (simp only [Mem.zp,Mem.pb,Mem.pc])
     refine plan_cell 3 _ _ (.int .i64 (it j:Int)) _ zr zr zr ze (fun w' hw'=>KC3.out w' hw') Tryz.underlying3 zr ?_
     (simp only [Mem.zp,Mem.pb,Mem.pc])
     refine plan_call 43 _ _ _ (by kernel_rfl) zr zr zr (by first | exact Mem.ev_none _ | (simp only [List.map_toArray,List.map_cons,List.map_nil,Mem.ev_tmp,List.getD_cons_succ,List.getD_cons_zero] <;> rfl)) ?_
     refine (PRI.out w9.drew (BX9.out.drew)).mono ?_
     rintro o10 w10 ⟨rfl,hb10⟩
     have Q10:Hid (Below w9.heap.size w9 w10):=zh (D9.out.trans (hb10.mono (Nat.le_refl _)))
     clear hb10
     refine ⟨_,rfl,Q10.out,?_⟩
     (simp only [Mem.zp,Mem.pb,Mem.pc])
     (first | refine Mem.pm1 ?_ | refine Mem.pm2 ?_ | refine Mem.pt ?_ | refine Mem.pf ?_)
     (simp only [Mem.zp,Mem.pb,Mem.pc])
     refine plan_extract _ 0 _ _ zr zr zr ze zr ?_
     (simp only [Mem.zp,Mem.pb,Mem.pc])
     refine plan_extract _ 1 _ _ zr zr zr ze zr ?_
     (simp only [Mem.zp,Mem.pb,Mem.pc])
     refine plan_extract _ 2 _ _ zr zr zr ze zr ?_
     (simp only [Mem.zp,Mem.pb,Mem.pc])
     iterate 3 ((first | refine Mem.pm1 ?_ | refine Mem.pm2 ?_ | refine Mem.pt ?_ | refine Mem.pf ?_);(simp only [Mem.zp,Mem.pb,Mem.pc]))
     refine plan_nil ?_
     have RG9:=zh (range_block RG1.out (Q10.out.block rb RL1.out))
     have B10:Hid (Below w5.heap.size w5 (w10.alloc (.cells RM 57))):=zh ((B9.out.trans (Q10.out.mono B9.out.size)).alloc (Nat.le_trans B9.out.size Q10.out.size) _)
     have L10:=zh (OL2.out w10 w5.heap.size (Nat.le_trans B9.out.size Q10.out.size))
     have D10:Hid (RdR (w10.alloc (.cells RM 57)) 34 (.slice (some ⟨rb0,ro0,none⟩) nr cr) nr (refCs (WG i))):=zh (by
      have h:=(ownsRow_slR (World.ownsRow.alloc (ownsRow_below O9.out Q10.out) (.cells RM 57))).rd
      rw [LN.out] at h
      exact h)
     have LO:Hid (∀ u∈refCs (WG i),u.oneCell'=true):=zh (fun u hu=>by
      obtain ⟨r',_,h2⟩:=List.mem_flatMap.1 hu
      exact refL_one r' u h2)
     have HXC:Hid (refCs (rr::WG i)=refCs [rr]++refCs (WG i)):=zh (by simp [refCs])
     have hfl:(aj:Int) < (nk:Int):=by have:=HFL.out;omega
     have hji:=JI.out
     go_wp2_with (first
      | (refine wpList_load_mid zr 57 _ zr rb (ro+aj*34) zr RM.toList _ RG9.out Tryz.underlying57 zr (by rw [infoRfR,Array.length_toList,RS2.out]) ?_;rw [Array.toArray_toList])
      | ((refine Go.Great.wpList_buildSliceTo zr 54 57 1 _ zr _ zr _ zr Tryz.underlying54 RM (by first | (simp [Act.eval,Act.put];exact RB2.out) | (go_simp;exact RB2.out) | (simp only [List.map_toArray,List.map_cons,List.map_nil];exact RB2.out)) ?_))
      | (at_builtin;go_loud (refine wpList_append_app zr _ _ 54 zr (.slice (some ⟨rb0,ro0,none⟩) nr cr) 1 nr 34 (refCs (WG i)) (.agg (refC zref)) 48 elemRR (refC_size zref_wf) (by decide) zr L10.out zr D10.out LO.out (by omega) (by omega) B10.out.size ?_);intro v11 w11 ho11 _ hb11;obtain ⟨a11,c11,rfl⟩:=rows_hd ho11;have O11:Hid (OwnRf w11 w5.heap.size 57 (.slice a11 (1+nr) c11) (WG j)):=zh (by rw [S2'.out];show w11.ownsRow _ _ _ _ ((WG i).length+1) _;rw [LN.out,Nat.add_comm nr 1,HXC.out];exact ho11);have B11:=zh (B10.out.trans hb11);clear ho11 hb11))
     go_roundw
     case rel=>exact ⟨_,rfl,j,by omega,by rw [←hji],S1.out,O11.out,B11.out⟩
     case measure=>simp [intOf];omega
    ·have hy:=E2I.out rfl hf
     have HY:=zh hy
     have hne:¬ f=0:=hf
     clear hy hf
     go_wp2_with fail
     go_ret3
     exact ⟨_,_,by rw [HY.out];rfl,by rw [HY.out];exact SlRf.nil _,by rw [HY.out];exact sl_none _,BX9.out⟩
   ·have hy:=E1I.out he
    have HY:=zh hy
    have hne:¬ e=0:=he
    clear hy he
    go_wp2_with fail
    go_ret3
    exact ⟨_,_,by rw [HY.out];rfl,by rw [HY.out];exact SlRf.nil _,by rw [HY.out];exact sl_none _,BX8.out⟩
  ·have h00:i=0:=by omega
   subst h00
   have hft:=FTX.out wr.drew ((BX.out).drew)
   have hla:=LA.out OK.out
   have hds:=refC_size (HDW.out 0)
   obtain ⟨HM1,hHM1⟩:∃ m,m=refC (hd 0):=⟨_,rfl⟩
   have hdm:refL (hd 0)=HM1.toList:=by rw [hHM1];rfl
   rw [←hHM1] at hft hds
   obtain ⟨pg,e⟩:=FT
   simp only at hft hla
   have FTI:=zh hft;have LAI:=zh hla;have HDS:=zh hds;have HDM:=zh hdm
   clear hft hla hds hdm hHM1 h0i
   go_upto_region 16 with fail
   have D0:Hid (Below wr.heap.size wr wr.drew):=zh (Below.refl _ _).drew
   refine wp_region_plan_in (fun y=>Below wr.heap.size wr y) (.take 0 (.take 1 (.take 2 (.take 3 (.take 4 (.take 5 (.take 6 (.sole 7 (.take 8 (.take 9 (.take 10 (.take 11 (.take 12 .done))))))))))))) (by kernel_rfl) (by kernel_rfl) (by kernel_rfl) D0.out ?_
   (first | refine Mem.pm1 ?_ | refine Mem.pm2 ?_ | refine Mem.pt ?_ | refine Mem.pf ?_)
   (simp only [Mem.zp,Mem.pb,Mem.pc])
   refine plan_row 26 _ w.heap.size _ KC 26 zr zr zr ze (fun w' hw'=>A0W.out.below hw' A0W.out.lt) Tryz.underlying26 zr (by rw [KS.out];kernel_rfl) ?_
   (simp only [Mem.zp,Mem.pb,Mem.pc])
   refine plan_row 47 _ (w.heap.size+1) _ C 47 zr zr zr ze (fun w' hw'=>A1W.out.below hw' A1W.out.lt) Tryz.underlying47 zr (by rw [CS.out];exact infoRS) ?_
   (simp only [Mem.zp,Mem.pb,Mem.pc])
   iterate 2 ((first | refine Mem.pm1 ?_ | refine Mem.pm2 ?_ | refine Mem.pt ?_ | refine Mem.pf ?_);(simp only [Mem.zp,Mem.pb,Mem.pc]))
   refine plan_index_z 54 57 _ _ rb0 ro0 nr cr 34 0 zr zr zr ze zr NR0 Tryz.underlying54 infoRfR ?_
   (simp only [Mem.zp,Mem.pb,Mem.pc])
   refine plan_load_range 57 _ rb0 (ro0+0*34) _ HM1 zr zr zr ze (fun w' hw'=>by rw [←HDM.out];exact HDR.out w' hw') Tryz.underlying57 zr (by rw [HDS.out];exact infoRfR) ?_
   (simp only [Mem.zp,Mem.pb,Mem.pc])
   refine plan_call 37 _ _ _ (by kernel_rfl) zr zr zr (by first | exact Mem.ev_none _ | (simp only [List.map_toArray,List.map_cons,List.map_nil,Mem.ev_tmp,List.getD_cons_succ,List.getD_cons_zero] <;> rfl)) ?_
   refine (FTI.out).mono ?_
   rintro o8 w8 ⟨vt8,rfl,ho8,hb8⟩
   have S8:=zh (OwnB.sl ho8)
   have Q8:Hid (Below wr.heap.size wr w8):=zh (D0.out.trans (hb8.mono (Nat.le_refl _)))
   clear ho8 hb8
   refine ⟨_,rfl,Q8.out,?_⟩
   (simp only [Mem.zp,Mem.pb,Mem.pc])
   (first | refine Mem.pm1 ?_ | refine Mem.pm2 ?_ | refine Mem.pt ?_ | refine Mem.pf ?_)
   (simp only [Mem.zp,Mem.pb,Mem.pc])
   refine plan_extract _ 0 _ vt8 zr zr zr ze zr ?_
   (simp only [Mem.zp,Mem.pb,Mem.pc])
   refine plan_extract _ 1 _ (.int .i64 e) zr zr zr ze zr ?_
   (simp only [Mem.zp,Mem.pb,Mem.pc])
   iterate 2 ((first | refine Mem.pm1 ?_ | refine Mem.pm2 ?_ | refine Mem.pt ?_ | refine Mem.pf ?_);(simp only [Mem.zp,Mem.pb,Mem.pc]))
   refine plan_nil ?_
   have BX8:Hid (Below w.heap.size w w8):=zh (BX.out.trans (Q8.out.mono BX.out.size))
   by_cases he:e=0
   ·subst he
    have hy:Y=(WG 0,pg,0):=by rw [LAI.out,if_neg (fun n=>n rfl)]
    have HY:=zh hy
    have hov:OwnRf w8 w5.heap.size 57 (.slice (some ⟨rb0,ro0,none⟩) nr cr) (WG 0):=by
     exact ownsRow_below OW.out Q8.out
    have R8:=zh (own_slrf hov (LW.out 0))
    clear hy hov
    go_wp2_with fail
    go_ret3
    exact ⟨_,_,by rw [HY.out];rfl,by rw [HY.out];exact R8.out,by rw [HY.out];exact S8.out,BX8.out⟩
   ·have hy:Y=([],[],e):=by rw [LAI.out,if_pos he]
    have HY:=zh hy
    have hne:¬ e=0:=he
    clear hy he
    go_wp2_with fail
    go_ret3
    exact ⟨_,_,by rw [HY.out];rfl,by rw [HY.out];exact SlRf.nil _,by rw [HY.out];exact sl_none _,BX8.out⟩
theorem rway14_any (B key:Lb8) (p:Nat) (r:RefV) (z:Int) (v vL vF:Value) (w:World) (lk:key.length=32) (hv:Sl w v B) (hBl:B.length≤1000000) (hR:RS w p vL vF) (h0:1≤p) (h1:p≤216) (hrw:r.Wf) :
 Calls Tryz.prog 16 #[v,.agg (u8s key).toArray,.agg (rsC p vL vF),.agg (refC r),.int .i64 z] w (WyEnd w (wayT B key p r z)):=by
 by_cases hz:z < 0∨(p:Int)≤z
 ·have e:wayT B key p r z=([],[],1):=by unfold wayT;rw [if_pos hz]
  rw [e]
  exact rway_none B key p r z v vL vF w hv hR h0 h1 hz
 ·obtain ⟨x,rfl⟩:∃ x:Nat,z=(x:Int):=⟨z.toNat,by omega⟩
  exact rway_some B key p r x v vL vF w lk hv hBl hR h0 h1 hrw (by omega)
end Sha
end Go.Proofs.YtddjdaocdfkgeaaGreatDoor
