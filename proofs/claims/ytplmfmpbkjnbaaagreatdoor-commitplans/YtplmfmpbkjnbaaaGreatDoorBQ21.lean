/- The program's shape: Blocks, Levels, Root, Level. The program's shape: Block, Item, Parent. -/
import Derived.Test.YtplmfmpbkjnbaaaGreatDoorBQ18
set_option maxRecDepth 100000
set_option maxHeartbeats 2000000
namespace Go.Proofs.YtplmfmpbkjnbaaaGreatDoor
namespace Sha
open Go.RowKit Mem
set_option maxRecDepth 100000
theorem itn_le259 (p:Nat) (h1:p≤216):itn p≤259:=by
 rcases Nat.eq_zero_or_pos p with h | h
 ·subst h;decide
 ·exact (itn_big p h h1).2
theorem plevel_0 (z:Int) (w:World):Calls Tryz.prog 112 #[.agg (psC 0),.int .i64 z] w (VEnd (.int .i64 (-1)) w):=by
 have lv:=fun w=>plevels_0 w
 have ha:=at_new w (psC 0) 31
 have hb:Below w.heap.size w (w.alloc (.cells (psC 0) 31)):=(Below.refl _ _).alloc (Nat.le_refl _) _
 have ms:(psC 0).size=1:=rfl
 have c0:(w.alloc (.cells (psC 0) 31)).cell? ⟨w.heap.size,0,none⟩=some (.int .i64 (0:Int)):=((at_new w (psC 0) _).cell 0).trans rfl
 obtain ⟨M,hM⟩:∃ M,M=psC 0:=⟨_,rfl⟩
 rw [←hM] at lv ha hb ms c0 ⊢
 obtain ⟨w1,hw1⟩:∃ w1,w1=w.alloc (.cells M 31):=⟨_,rfl⟩
 rw [←hw1] at ha hb c0
 have HB:=zh hb;have MS:=zh ms;have AX:=zh ha;have BS:=zh hb.size
 have LV:=zh lv
 clear hb ms hM ha lv
 go_enter Tryz.func112,Tryz.ntmps112
 go_upto_region 1 with fail
 rw [←hw1]
 clear hw1
 clear c0
 go_wp2_with (refine wpList_load_all zr 31 _ zr w.heap.size zr _ Tryz.underlying31 zr M _ AX.out (by rw [MS.out];exact infoPS) ?_)
 refine (LV.out _).mono ?_
 rintro e w2 ⟨rfl,hb2⟩
 have B2:=zh hb2
 clear hb2
 go_wp2_with fail
 go_loopw [10] (fun v wr=>v=.int .i64 0∧wr=w2) (fun _ _=>0)
 case atStart=>exact ⟨rfl,rfl⟩
 case round=>
  obtain ⟨rfl,rfl⟩:=hrel
  go_wp2_with fail
  go_ret
  exact ⟨rfl,HB.out.trans (B2.out.mono BS.out)⟩
theorem lvl_in (p k:Nat) (z:Int) (_h0:1≤p) (_h1:p≤216) (hk:k < topn p+1) (h:(stn p k:Int)≤z∧z < (stn p k:Int)+(lvn p k:Int)):lvlP p z=(k:Int):=by
 have t:=top_le p
 have s:=stn_lvn p k (by omega)
 have m:=stn_mono p (k+1) (topn p+1) (by omega) (by omega)
 have e:itn p=stn p (topn p+1):=rfl
 obtain ⟨i,rfl⟩:∃ i:Nat,z=(i:Int):=⟨z.toNat,by omega⟩
 have hl:=lev_eq p i k (by omega) (by omega) (by omega)
 unfold lvlP
 rw [if_pos ⟨by omega,by omega⟩,Int.toNat_natCast,hl]
theorem lvl_out (p:Nat) (z:Int) (h:∀ k,k < topn p+1→¬ ((stn p k:Int)≤z∧z < (stn p k:Int)+(lvn p k:Int))):lvlP p z=-1:=by
 unfold lvlP
 refine if_neg (fun hc=>?_)
 obtain ⟨i,rfl⟩:∃ i:Nat,z=(i:Int):=⟨z.toNat,by omega⟩
 have h4:=itn_le p
 have lo:=lev_lo p i
 have hi:=lev_hi p i (by omega)
 have l3:=lev_le p i
 have s:=stn_lvn p (lev p i) l3
 have t:=top_le p
 have e:itn p=stn p (topn p+1):=rfl
 have hlt:lev p i < topn p+1:=by
  rcases Nat.lt_or_ge (lev p i) (topn p+1) with a | a
  ·exact a
  ·have:=stn_mono p (topn p+1) (lev p i) a (by omega)
   omega
 exact h (lev p i) hlt ⟨by omega,by omega⟩
theorem plevel_pos (p:Nat) (z:Int) (w:World) (h0:1≤p) (h1:p≤216):Calls Tryz.prog 112 #[.agg (psC p),.int .i64 z] w (VEnd (.int .i64 (lvlP p z)) w):=by
 have hin:=fun k hk h=>lvl_in p k z h0 h1 hk h
 have hout:=lvl_out p z
 obtain ⟨R,hR⟩:∃ R,R=lvlP p z:=⟨_,rfl⟩
 rw [←hR] at hin hout ⊢
 have ht:=top_le p
 have hbd:=fun k hk=>stn_le p k hk h1
 have lv:=fun w=>plevels_any p w h0 h1
 unfold LvEnd at lv
 obtain ⟨t,htt⟩:∃ t,t=topn p:=⟨_,rfl⟩
 have hle:∀ k,k < t+1→k≤topn p:=fun k hk=>by omega
 rw [←htt] at ht lv hin hout
 have LE:=zh hle;have BD:=zh hbd;have IN:=zh hin;have OUT:=zh hout
 clear hle hbd htt hin hout hR
 have ha:=at_new w (psC p) 31
 have hb:Below w.heap.size w (w.alloc (.cells (psC p) 31)):=(Below.refl _ _).alloc (Nat.le_refl _) _
 have ms:(psC p).size=1:=rfl
 have c0:(w.alloc (.cells (psC p) 31)).cell? ⟨w.heap.size,0,none⟩=some (.int .i64 (p:Int)):=((at_new w (psC p) _).cell 0).trans rfl
 obtain ⟨M,hM⟩:∃ M,M=psC p:=⟨_,rfl⟩
 rw [←hM] at lv ha hb ms c0 ⊢
 obtain ⟨w1,hw1⟩:∃ w1,w1=w.alloc (.cells M 31):=⟨_,rfl⟩
 rw [←hw1] at ha hb c0
 have HB:=zh hb;have MS:=zh ms;have AX:=zh ha;have BS:=zh hb.size
 have LV:=zh lv
 clear lv hb ms hM ha
 go_enter Tryz.func112,Tryz.ntmps112
 go_upto_region 1 with fail
 rw [←hw1]
 clear hw1
 clear c0
 go_wp2_with (refine wpList_load_all zr 31 _ zr w.heap.size zr _ Tryz.underlying31 zr M _ AX.out (by rw [MS.out];exact infoPS) ?_)
 refine (LV.out _).mono ?_
 rintro e w2 ⟨g,C,rfl,hr,hb2⟩
 have B2:=zh hb2;have R2:=zh hr
 clear hb2 hr
 go_wp2_with fail
 go_loopw [10] (fun v wr=>∃ k:Nat,k≤t+1∧v=.int .i64 (k:Int)∧(∀ j,j < k→¬ ((stn p j:Int)≤z∧z < (stn p j:Int)+(lvn p j:Int)))∧Below w2.heap.size w2 wr) (fun v _=>t+1 - (intOf v).toNat)
 case atStart=>exact ⟨0,by omega,rfl,fun j hj=>by omega,Below.refl _ _⟩
 case round=>
  obtain ⟨k,hk,rfl,hno,hbw⟩:=hrel
  have NO:=zh hno
  clear hno
  by_cases hlt:k < t+1
  ·have hlt':(k:Int) < (t:Int)+1:=by omega
   have hlt2:(k:Int) < ((t+1:Nat):Int):=by omega
   have RW:=zh (R2.out.below hbw)
   have hd:=BD.out k (by omega)
   have hext:=RW.out.ext (LE.out k hlt)
   have hin:=IN.out k hlt
   have hns:¬ ((stn p k:Int)≤z∧z < (stn p k:Int)+(lvn p k:Int))→∀ j,j < k+1→¬ ((stn p j:Int)≤z∧z < (stn p j:Int)+(lvn p j:Int)):=fun h j hj=>by
    rcases Nat.lt_or_ge j k with a | a
    ·exact NO.out j a
    ·rw [show j=k by omega];exact h
   obtain ⟨f,hf⟩:∃ f,f=stn p k:=⟨_,rfl⟩
   obtain ⟨m,hm⟩:∃ m,m=lvn p k:=⟨_,rfl⟩
   rw [←hf,←hm] at hd hext hin hns
   have c1:(wr.alloc (.cells #[.int .i64 (f:Int),.int .i64 (m:Int)] 198)).cell? ⟨wr.heap.size,1,none⟩=some (.int .i64 (m:Int)):=((at_new wr _ _).cell 1).trans rfl
   have c0:(wr.alloc (.cells #[.int .i64 (f:Int),.int .i64 (m:Int)] 198)).cell? ⟨wr.heap.size,0,none⟩=some (.int .i64 (f:Int)):=((at_new wr _ _).cell 0).trans rfl
   have hx:=zeroLv
   have B4:Hid (Below w2.heap.size w2 (wr.alloc (.cells #[.int .i64 (f:Int),.int .i64 (m:Int)] 198))):=zh (hbw.alloc hbw.size _)
   have EX:=zh hext;have IK:=zh hin;have NS:=zh hns
   have hsz:k*2+2≤C.size:=by rw [RW.out.size];omega
   have SZ:=zh hsz
   have WI:=zh (fun w=>within_any z (f:Int) (m:Int) w (by omega) (by omega) (by omega))
   clear hext hf hm hbw hsz hin hns
   go_wp2_with (first
    | (refine wpList_load_is zr 198 _ zr g (k*2) 2 zr _ Tryz.underlying198 zr infoLv C 198 RW.out.row SZ.out #[.int .i64 (f:Int),.int .i64 (m:Int)] EX.out ?_)
    | (refine wpList_store_new zr 198 _ _ zr zr #[.int .i64 (f:Int),.int .i64 (m:Int)] _ _ zr zr infoLv zr (two_one _ _) ?_))
   refine (WI.out _).mono ?_
   rintro e w5 ⟨rfl,rfl⟩
   clear c0 c1 hx
   generalize (wr.alloc (.cells #[.int .i64 (f:Int),.int .i64 (m:Int)] 198))=w5 at *
   by_cases hw:(f:Int)≤z∧z < (f:Int)+(m:Int)
   ·rw [decide_eq_true hw]
    have HR:=zh (IK.out hw)
    clear hw
    go_wp2_with fail
    go_ret
    exact ⟨by rw [HR.out];rfl,HB.out.trans ((B2.out.trans (B4.out.mono B2.out.size)).mono BS.out)⟩
   ·rw [decide_eq_false hw]
    have NK:=zh (NS.out hw)
    clear hw
    go_wp2_with fail
    go_roundw
    case rel=>exact ⟨k+1,by omega,by go_num,NK.out,B4.out⟩
    case measure=>simp [intOf];omega
  ·have hke:k=t+1:=by omega
   have hge:¬ (k:Int) < (t:Int)+1:=by omega
   subst hke
   have BW:=zh hbw;have HR:=zh (OUT.out NO.out)
   clear hbw
   go_wp2_with fail
   go_ret
   exact ⟨by rw [HR.out];rfl,HB.out.trans ((B2.out.trans (BW.out.mono B2.out.size)).mono BS.out)⟩
theorem plevel_any (p:Nat) (z:Int) (w:World) (h1:p≤216):Calls Tryz.prog 112 #[.agg (psC p),.int .i64 z] w (VEnd (.int .i64 (lvlP p z)) w):=by
 rcases Nat.eq_zero_or_pos p with h | h
 ·subst h
  have e:lvlP 0 z=-1:=by unfold lvlP;rw [itn_0];exact if_neg (by omega)
  rw [e];exact plevel_0 z w
 ·exact plevel_pos p z w h h1
theorem b_in (f z m:Int) (h:f≤z∧z < f+m):decide (f≤z∧z < f+m)=true:=decide_eq_true h
theorem b_out (f z m:Int) (h:¬ (f≤z∧z < f+m)):decide (f≤z∧z < f+m)=false:=decide_eq_false h
theorem pblock_any (p:Nat) (z k:Int) (w:World) (h1:p≤216):Calls Tryz.prog 20 #[.agg (psC p),.int .i64 z,.int .i64 k] w (VEnd (.int .i64 (BZ p z k)) w):=by
 have hbig:=itn_le259 p h1
 have hB:BZ p z k=if (0≤z∧z < (itn p:Int))∧0≤k∧k≤1 then 2+2*z+k else -1:=rfl
 obtain ⟨n,hn⟩:∃ n,n=itn p:=⟨_,rfl⟩
 obtain ⟨R,hR⟩:∃ R,R=BZ p z k:=⟨_,rfl⟩
 have it:=fun w=>pitems_any p w h1
 rw [←hn] at it hbig hB
 rw [←hR] at hB ⊢
 have WI:=zh (fun w=>within_any z 0 (n:Int) w (by omega) (by omega) (by omega))
 have WK:=zh (fun w=>within_any k 0 2 w (by omega) (by omega) (by omega))
 have HIF:=zh hB
 clear hn hR hB
 have ha:=at_new w (psC p) 31
 have hb:Below w.heap.size w (w.alloc (.cells (psC p) 31)):=(Below.refl _ _).alloc (Nat.le_refl _) _
 have ms:(psC p).size=1:=rfl
 have c0:(w.alloc (.cells (psC p) 31)).cell? ⟨w.heap.size,0,none⟩=some (.int .i64 (p:Int)):=((at_new w (psC p) _).cell 0).trans rfl
 obtain ⟨M,hM⟩:∃ M,M=psC p:=⟨_,rfl⟩
 rw [←hM] at it ha hb ms c0 ⊢
 obtain ⟨w1,hw1⟩:∃ w1,w1=w.alloc (.cells M 31):=⟨_,rfl⟩
 rw [←hw1] at ha hb c0
 have HB:=zh hb;have MS:=zh ms;have AX:=zh ha;have BS:=zh hb.size
 have IT:=zh it
 clear it hb ms hM ha
 go_enter Tryz.func20,Tryz.ntmps20
 go_upto_region 1 with fail
 rw [←hw1]
 clear hw1
 clear c0
 go_wp2_with (refine wpList_load_all zr 31 _ zr w.heap.size zr _ Tryz.underlying31 zr M _ AX.out (by rw [MS.out];exact infoPS) ?_)
 refine (IT.out _).mono ?_
 rintro e w2 ⟨rfl,hb2⟩
 have B2:=zh hb2
 clear hb2
 go_wp2_with fail
 refine (WI.out _).mono ?_
 rintro e w3 ⟨rfl,rfl⟩
 by_cases hz:0≤z∧z < 0+(n:Int)
 ·rw [b_in 0 z n hz]
  go_wp2_with fail
  refine (WK.out _).mono ?_
  rintro e w3 ⟨rfl,rfl⟩
  by_cases hk:0≤k∧k < 0+2
  ·rw [b_in 0 k 2 hk]
   have hB:=HIF.out
   rw [if_pos ⟨⟨by omega,by omega⟩,by omega,by omega⟩] at hB
   have HR:=zh hB
   clear hB
   have z1:0≤z:=by omega
   have z2:z≤259:=by omega
   have k1:0≤k:=by omega
   have k2:k≤1:=by omega
   clear hz hk
   go_wp2_with fail
   go_ret
   exact ⟨by rw [HR.out];rfl,HB.out.trans (B2.out.mono BS.out)⟩
  ·rw [b_out 0 k 2 hk]
   have hB:=HIF.out
   rw [if_neg (fun h=>hk ⟨by omega,by omega⟩)] at hB
   have HR:=zh hB
   clear hB hk hz
   go_wp2_with fail
   go_ret
   exact ⟨by rw [HR.out];rfl,HB.out.trans (B2.out.mono BS.out)⟩
 ·rw [b_out 0 z n hz]
  have hB:=HIF.out
  rw [if_neg (fun h=>hz ⟨by omega,by omega⟩)] at hB
  have HR:=zh hB
  clear hB hz
  go_wp2_with fail
  go_ret
  exact ⟨by rw [HR.out];rfl,HB.out.trans (B2.out.mono BS.out)⟩
def LaEnd (p:Nat) (w:World) (e:Ending) (w':World):Prop:=∃ v,e=.returned v∧Below w.heap.size w w'∧(1≤p→∃ g C,v=.slice (some ⟨g,0,none⟩) (topn p+1) (topn p+1)∧LvR w' g p C)
theorem plevels_all (p:Nat) (w:World) (h1:p≤216):Calls Tryz.prog 111 #[.agg (psC p)] w (LaEnd p w):=by
 rcases Nat.eq_zero_or_pos p with h | h
 ·subst h
  refine (plevels_0 w).mono ?_
  rintro e w' ⟨rfl,hb⟩
  exact ⟨_,rfl,hb,fun h=>by omega⟩
 ·refine (plevels_any p w h h1).mono ?_
  rintro e w' ⟨g,C,rfl,hr,hb⟩
  exact ⟨_,rfl,hb,fun _=>⟨g,C,rfl,hr⟩⟩
theorem pparent_out (p:Nat) (z:Int) (w:World) (h1:p≤216) (h:¬ (0≤z∧z < (itn p:Int))):Calls Tryz.prog 123 #[.agg (psC p),.int .i64 z] w (TEnd (PZ p z) w):=by
 have hP:PZ p z=(0,0,false):=if_neg (by omega)
 have hl:lvlP p z=-1:=if_neg h
 rw [hP]
 have le:=fun w=>plevel_any p z w h1
 rw [hl] at le
 have lv:=fun w=>plevels_all p w h1
 clear hP hl h
 have ha:=at_new w (psC p) 31
 have hb:Below w.heap.size w (w.alloc (.cells (psC p) 31)):=(Below.refl _ _).alloc (Nat.le_refl _) _
 have ms:(psC p).size=1:=rfl
 have c0:(w.alloc (.cells (psC p) 31)).cell? ⟨w.heap.size,0,none⟩=some (.int .i64 (p:Int)):=((at_new w (psC p) _).cell 0).trans rfl
 obtain ⟨M,hM⟩:∃ M,M=psC p:=⟨_,rfl⟩
 rw [←hM] at lv le ha hb ms c0 ⊢
 obtain ⟨w1,hw1⟩:∃ w1,w1=w.alloc (.cells M 31):=⟨_,rfl⟩
 rw [←hw1] at ha hb c0
 have HB:=zh hb;have MS:=zh ms;have AX:=zh ha;have BS:=zh hb.size
 have LV:=zh lv
 have LE:=zh le
 clear lv le hb ms hM ha
 go_enter Tryz.func123,Tryz.ntmps123
 go_upto_region 1 with fail
 rw [←hw1]
 clear hw1
 clear c0
 refine wp_region_plan_in (fun x'=>Below w1.heap.size w1 x') (.take 0 (.take 2 (.take 3 (.sole 1 (.sole 4 (.take 5 (.take 6 .done))))))) (by kernel_rfl) (by kernel_rfl) (by kernel_rfl) (Below.refl _ _).drew ?_
 refine plan_row 31 _ w.heap.size _ M 31 zr zr zr ze (fun w' hw'=>AX.out.below hw' AX.out.lt) Tryz.underlying31 zr (by rw [MS.out];exact infoPS) ?_
 (simp only [Mem.zp,Mem.pb,Mem.pc])
 refine plan_row 31 _ w.heap.size _ M 31 zr zr zr ze (fun w' hw'=>AX.out.below hw' AX.out.lt) Tryz.underlying31 zr (by rw [MS.out];exact infoPS) ?_
 (simp only [Mem.zp,Mem.pb,Mem.pc])
 (first | refine Mem.pm1 ?_ | refine Mem.pm2 ?_ | refine Mem.pt ?_ | refine Mem.pf ?_)
 (simp only [Mem.zp,Mem.pb,Mem.pc])
 refine plan_call 111 _ _ _ (by kernel_rfl) zr zr zr (by first | exact Mem.ev_none _ | (simp only [List.map_toArray,List.map_cons,List.map_nil,Mem.ev_tmp,List.getD_cons_succ,List.getD_cons_zero] <;> rfl)) ?_
 refine (LV.out _).mono ?_
 rintro e w2 ⟨v2,rfl,hb2,_⟩
 have D2:Hid (Below w1.heap.size w1 w2):=zh (Below.trans (Below.refl _ _).drew hb2)
 clear hb2
 refine ⟨_,rfl,D2.out,?_⟩
 (simp only [Mem.zp,Mem.pb,Mem.pc])
 refine plan_call 112 _ _ _ (by kernel_rfl) zr zr zr (by first | exact Mem.ev_none _ | (simp only [List.map_toArray,List.map_cons,List.map_nil,Mem.ev_tmp,List.getD_cons_succ,List.getD_cons_zero] <;> rfl)) ?_
 refine (LE.out _).mono ?_
 rintro e w3 ⟨rfl,hb3⟩
 have D3:Hid (Below w1.heap.size w1 w3):=zh (D2.out.trans (hb3.mono D2.out.size))
 clear hb3
 refine ⟨_,rfl,D3.out,?_⟩
 (simp only [Mem.zp,Mem.pb,Mem.pc])
 iterate 2 ((first | refine Mem.pm1 ?_ | refine Mem.pm2 ?_ | refine Mem.pt ?_ | refine Mem.pf ?_);(simp only [Mem.zp,Mem.pb,Mem.pc]))
 refine plan_nil ?_
 go_wp2_with fail
 go_ret3
 exact ⟨rfl,HB.out.trans (D3.out.mono BS.out)⟩
theorem pparent_in (p i:Nat) (w:World) (h0:1≤p) (h1:p≤216) (h:i < itn p):Calls Tryz.prog 123 #[.agg (psC p),.int .i64 (i:Int)] w (TEnd (PZ p (i:Int)) w):=by
 have hl:lvlP p (i:Int)=((lev p i:Nat):Int):=by unfold lvlP;rw [if_pos ⟨by omega,by omega⟩,Int.toNat_natCast]
 have htop:=lev_top p i h0 h1
 have hlo:=lev_lo p i
 have h4:=itn_le p
 have hhi:=lev_hi p i (by omega)
 have hbig:=itn_le259 p h1
 have ht:=top_le p
 have hPZ:PZ p (i:Int)=if 0≤(i:Int)∧(i:Int)+1 < (itn p:Int) then (((stn p (lev p i+1)+(i - stn p (lev p i)) / 6:Nat):Int),(((i - stn p (lev p i)) % 6:Nat):Int),true) else (0,0,false):=by unfold PZ;rw [Int.toNat_natCast];rfl
 have hbd:=fun k hk=>stn_le p k hk h1
 have hle:∀ k,k < topn p+1→k≤topn p:=fun k hk=>by omega
 have hlt:lev p i≤topn p:=by
  rcases Nat.lt_or_ge (topn p) (lev p i) with a | a
  ·have:=stn_mono p (topn p+1) (lev p i) a (by have:=lev_le p i;omega)
   have e:itn p=stn p (topn p+1):=rfl
   omega
  ·exact a
 have le:=fun w=>plevel_any p (i:Int) w h1
 rw [hl] at le
 have lv:=fun w=>plevels_any p w h0 h1
 unfold LvEnd at lv
 obtain ⟨R,hR⟩:∃ R,R=PZ p (i:Int):=⟨_,rfl⟩
 rw [←hR] at hPZ ⊢
 obtain ⟨a,ha0⟩:∃ a,a=lev p i:=⟨_,rfl⟩
 rw [←ha0] at le htop hlo hPZ hlt hhi
 obtain ⟨f,hf⟩:∃ f,f=stn p a:=⟨_,rfl⟩
 obtain ⟨f2,hf2⟩:∃ f2,f2=stn p (a+1):=⟨_,rfl⟩
 rw [←hf] at hlo hPZ
 rw [←hf2] at hPZ hhi
 have hb1:=(hbd a (by omega)).1
 have hb2':f2≤600:=by
  rw [hf2]
  by_cases a3:a+1≤3
  ·have:=(hbd (a+1) a3).1;omega
  ·have:a=3:=by omega
   subst this
   have:=stn_lvn p 3 (by omega);have:=hbd 3 (by omega);omega
 rw [←hf] at hb1
 have hcell:∀ wx g C,LvR wx g p C→wx.cell? ⟨g,a*2,none⟩=some (.int .i64 (f:Int)):=fun wx g C hr=>by rw [hf];exact hr.cell0 hlt
 have hcell2:a+1≤topn p→∀ wx g C,LvR wx g p C→wx.cell? ⟨g,(a+1)*2,none⟩=some (.int .i64 (f2:Int)):=fun h wx g C hr=>by rw [hf2];exact hr.cell0 h
 obtain ⟨t,htt⟩:∃ t,t=topn p:=⟨_,rfl⟩
 rw [←htt] at lv htop hlt ht hcell2
 have HC1:=zh hcell;have HC2:=zh hcell2
 have HPZ:=zh hPZ
 have htop2:(i+1 < itn p) ↔ a < t:=⟨fun x=>(htop.mp x).2,fun x=>htop.mpr ⟨h,x⟩⟩
 have HT:=zh htop2
 clear hl htop h4 hPZ hbd hle hcell hcell2 hR ha0 hf hf2 htt htop2
 have ha:=at_new w (psC p) 31
 have hb:Below w.heap.size w (w.alloc (.cells (psC p) 31)):=(Below.refl _ _).alloc (Nat.le_refl _) _
 have ms:(psC p).size=1:=rfl
 have c0:(w.alloc (.cells (psC p) 31)).cell? ⟨w.heap.size,0,none⟩=some (.int .i64 (p:Int)):=((at_new w (psC p) _).cell 0).trans rfl
 obtain ⟨M,hM⟩:∃ M,M=psC p:=⟨_,rfl⟩
 rw [←hM] at lv le ha hb ms c0 ⊢
 obtain ⟨w1,hw1⟩:∃ w1,w1=w.alloc (.cells M 31):=⟨_,rfl⟩
 rw [←hw1] at ha hb c0
 have HB:=zh hb;have MS:=zh ms;have AX:=zh ha;have BS:=zh hb.size
 have LV:=zh lv
 have LE:=zh le
 clear lv le hb ms hM ha
 go_enter Tryz.func123,Tryz.ntmps123
 go_upto_region 1 with fail
 rw [←hw1]
 clear hw1
 clear c0
 refine wp_region_plan_in (fun x'=>Below w1.heap.size w1 x') (.take 0 (.take 2 (.take 3 (.sole 1 (.sole 4 (.take 5 (.take 6 .done))))))) (by kernel_rfl) (by kernel_rfl) (by kernel_rfl) (Below.refl _ _).drew ?_
 refine plan_row 31 _ w.heap.size _ M 31 zr zr zr ze (fun w' hw'=>AX.out.below hw' AX.out.lt) Tryz.underlying31 zr (by rw [MS.out];exact infoPS) ?_
 (simp only [Mem.zp,Mem.pb,Mem.pc])
 refine plan_row 31 _ w.heap.size _ M 31 zr zr zr ze (fun w' hw'=>AX.out.below hw' AX.out.lt) Tryz.underlying31 zr (by rw [MS.out];exact infoPS) ?_
 (simp only [Mem.zp,Mem.pb,Mem.pc])
 (first | refine Mem.pm1 ?_ | refine Mem.pm2 ?_ | refine Mem.pt ?_ | refine Mem.pf ?_)
 (simp only [Mem.zp,Mem.pb,Mem.pc])
 refine plan_call 111 _ _ _ (by kernel_rfl) zr zr zr (by first | exact Mem.ev_none _ | (simp only [List.map_toArray,List.map_cons,List.map_nil,Mem.ev_tmp,List.getD_cons_succ,List.getD_cons_zero] <;> rfl)) ?_
 refine (LV.out _).mono ?_
 rintro e w2 ⟨g,C,rfl,hr,hb2⟩
 have D2:Hid (Below w1.heap.size w1 w2):=zh (Below.trans (Below.refl _ _).drew hb2)
 have RL:=zh hr
 clear hb2 hr
 refine ⟨_,rfl,D2.out,?_⟩
 (simp only [Mem.zp,Mem.pb,Mem.pc])
 refine plan_call 112 _ _ _ (by kernel_rfl) zr zr zr (by first | exact Mem.ev_none _ | (simp only [List.map_toArray,List.map_cons,List.map_nil,Mem.ev_tmp,List.getD_cons_succ,List.getD_cons_zero] <;> rfl)) ?_
 refine (LE.out _).mono ?_
 rintro e w3 ⟨rfl,hb3⟩
 have D3:Hid (Below w1.heap.size w1 w3):=zh (D2.out.trans (hb3.mono D2.out.size))
 have RL3:=zh (RL.out.below hb3)
 clear hb3 RL
 refine ⟨_,rfl,D3.out,?_⟩
 (simp only [Mem.zp,Mem.pb,Mem.pc])
 iterate 2 ((first | refine Mem.pm1 ?_ | refine Mem.pm2 ?_ | refine Mem.pt ?_ | refine Mem.pf ?_);(simp only [Mem.zp,Mem.pb,Mem.pc]))
 refine plan_nil ?_
 by_cases hat:a < t
 ·have c1:=HC1.out _ _ _ RL3.out
  have c2:=HC2.out hat _ _ _ RL3.out
  have HR:=HPZ.out
  rw [if_pos ⟨by omega,by have:=HT.out.mpr hat;omega⟩] at HR
  have HRR:=zh HR
  have a1:¬ (a:Int)=-1:=by omega
  have a2:¬ (a:Int)=(t:Int):=by omega
  have a3:a < t+1:=by omega
  have a4:a+1 < t+1:=by omega
  have a5:(a:Int) < (t:Int)+1:=by omega
  have a6:(a:Int)+1 < (t:Int)+1:=by omega
  have e6:((i:Int) - (f:Int)) / 6=(((i - f) / 6:Nat):Int):=by omega
  have e7:((i:Int) - (f:Int)) % 6=(((i - f) % 6:Nat):Int):=by omega
  have E6:=zh e6;have E7:=zh e7
  clear HR e6 e7 HPZ HC1 HC2 HT
  go_upto_region 2 with fail
  go_cut [23] (fun x wx=>x=.bool false∧w3=wx)
  case first=>
   have b1:((a:Int) == -1)=false:=beq_eq_false_iff_ne.mpr a1
   have b2:((a:Int) == (t:Int))=false:=beq_eq_false_iff_ne.mpr a2
   have B1:=zh b1;have B2':=zh b2
   clear c1 c2 b1 b2
   go_wp2_with fail
   go_meet
   exact ⟨by simp only [B1.out,B2'.out,Bool.or_self],rfl⟩
  obtain ⟨rfl,hwx⟩:=hcut
  subst hwx
  go_wp2_with fail
  go_ret3
  exact ⟨by rw [HRR.out,Int.natCast_add,←E6.out,←E7.out];rfl,HB.out.trans (D3.out.mono BS.out)⟩
 ·have HR:=HPZ.out
  rw [if_neg (fun hh=>hat (HT.out.mp (by omega)))] at HR
  have HRR:=zh HR
  have a1:¬ (a:Int)=-1:=by omega
  have a2:a=t:=by omega
  subst a2
  clear HR HPZ HC1 HC2 HT
  go_wp2_with fail
  go_ret3
  exact ⟨by rw [HRR.out];rfl,HB.out.trans (D3.out.mono BS.out)⟩
theorem pparent_any (p:Nat) (z:Int) (w:World) (h1:p≤216):Calls Tryz.prog 123 #[.agg (psC p),.int .i64 z] w (TEnd (PZ p z) w):=by
 by_cases h:0≤z∧z < (itn p:Int)
 ·obtain ⟨i,rfl⟩:∃ i:Nat,z=(i:Int):=⟨z.toNat,by omega⟩
  have h0:1≤p:=by
   rcases Nat.eq_zero_or_pos p with e | e
   ·subst e;rw [itn_0] at h;omega
   ·exact e
  exact pparent_in p i w h0 h1 (by omega)
 ·exact pparent_out p z w h1 h
end Sha
end Go.Proofs.YtplmfmpbkjnbaaaGreatDoor
