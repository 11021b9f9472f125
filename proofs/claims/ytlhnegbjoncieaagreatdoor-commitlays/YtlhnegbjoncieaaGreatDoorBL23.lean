/- The program's shape: Items, Blocks, Levels, Root, Level. The program's shape: Blocks, Levels, Root, Level. -/
import Derived.Test.YtlhnegbjoncieaaGreatDoorBL17
set_option maxRecDepth 100000
set_option maxHeartbeats 1000000
namespace Go.Proofs.YtlhnegbjoncieaaGreatDoor
namespace Sha
open Go.RowKit Mem
set_option maxRecDepth 100000
theorem zeroLv (w:World):(zeroValue 164).run Tryz.prog w=.ok (.agg #[.int .i64 0,.int .i64 0]) w:=by kernel_rfl
theorem pitems_0 (w:World):Calls Tryz.prog 45 #[.agg (psC 0)] w (VEnd (.int .i64 0) w):=by
 have lv:=fun w=>plevels_0 w
 have ha:=at_new w (psC 0) 26
 have hb:Below w.heap.size w (w.alloc (.cells (psC 0) 26)):=(Below.refl _ _).alloc (Nat.le_refl _) _
 have ms:(psC 0).size=1:=rfl
 obtain ⟨M,hM⟩:∃ M,M=psC 0:=⟨_,rfl⟩
 rw [←hM] at lv ha hb ms ⊢
 obtain ⟨w1,hw1⟩:∃ w1,w1=w.alloc (.cells M 26):=⟨_,rfl⟩
 rw [←hw1] at ha hb
 have HB:=zh hb;have MS:=zh ms;have LV:=zh lv;have AX:=zh ha;have BS:=zh hb.size
 clear hb ms hM lv ha
 go_enter Tryz.func45,Tryz.ntmps45
 go_upto_region 1 with fail
 rw [←hw1]
 clear hw1
 go_wp2_with (refine wpList_load_all zr 26 _ zr w.heap.size zr _ Tryz.underlying26 zr M _ AX.out (by rw [MS.out];exact infoPS) ?_)
 refine (LV.out _).mono ?_
 rintro e w2 ⟨rfl,hb2⟩
 have B2:=zh hb2
 clear hb2
 go_wp2_with fail
 go_loopw [3,9] (fun s v wr=>s=.int .i64 0∧v=.int .i64 0∧wr=w2) (fun _ _ _=>0)
 case atStart=>exact ⟨rfl,rfl,rfl⟩
 case round=>
  obtain ⟨rfl,rfl,rfl⟩:=hrel
  go_wp2_with fail
  go_ret
  exact ⟨rfl,HB.out.trans (B2.out.mono BS.out)⟩
theorem pitems_pos (p:Nat) (w:World) (h0:1≤p) (h1:p≤216):Calls Tryz.prog 45 #[.agg (psC p)] w (VEnd (.int .i64 (itn p:Nat)) w):=by
 have lv:=fun w=>plevels_any p w h0 h1
 have ha:=at_new w (psC p) 26
 have hb:Below w.heap.size w (w.alloc (.cells (psC p) 26)):=(Below.refl _ _).alloc (Nat.le_refl _) _
 have ms:(psC p).size=1:=rfl
 obtain ⟨M,hM⟩:∃ M,M=psC p:=⟨_,rfl⟩
 rw [←hM] at lv ha hb ms ⊢
 obtain ⟨w1,hw1⟩:∃ w1,w1=w.alloc (.cells M 26):=⟨_,rfl⟩
 rw [←hw1] at ha hb
 have ht:=top_le p
 have hst:=fun k hk=>stn_lvn p k hk
 have hbd:=fun k hk=>stn_le p k hk h1
 have hit:itn p=stn p (topn p+1):=rfl
 obtain ⟨t,htt⟩:∃ t,t=topn p:=⟨_,rfl⟩
 have hle:∀ k,k < t+1→k≤topn p:=fun k hk=>by omega
 unfold LvEnd at lv
 rw [←htt] at ht hit lv
 rw [hit]
 have HB:=zh hb;have MS:=zh ms;have LV:=zh lv;have AX:=zh ha;have BS:=zh hb.size;have ST:=zh hst;have BD:=zh hbd;have LE:=zh hle
 clear hb ms hM lv ha hst hbd hit hle htt
 go_enter Tryz.func45,Tryz.ntmps45
 go_upto_region 1 with fail
 rw [←hw1]
 clear hw1
 go_wp2_with (refine wpList_load_all zr 26 _ zr w.heap.size zr _ Tryz.underlying26 zr M _ AX.out (by rw [MS.out];exact infoPS) ?_)
 refine (LV.out _).mono ?_
 rintro e w2 ⟨g,C,rfl,hr,hb2⟩
 have B2:=zh hb2;have R2:=zh hr
 clear hb2 hr
 go_wp2_with fail
 go_loopw [3,9] (fun s v wr=>∃ k:Nat,k≤t+1∧s=.int .i64 (stn p k:Nat)∧v=.int .i64 (k:Int)∧Below w2.heap.size w2 wr) (fun _ v _=>t+1 - (intOf v).toNat)
 case atStart=>exact ⟨0,by omega,rfl,rfl,Below.refl _ _⟩
 case round=>
  obtain ⟨k,hk,rfl,rfl,hbw⟩:=hrel
  by_cases hlt:k < t+1
  ·have hlt':(k:Int) < (t:Int)+1:=by omega
   have hlt2:(k:Int) < ((t+1:Nat):Int):=by omega
   have RW:=zh (R2.out.below hbw)
   have hs:=ST.out k (by omega)
   have hd:=BD.out k (by omega)
   have hext:=RW.out.ext (LE.out k hlt)
   obtain ⟨f,hf⟩:∃ f,f=stn p k:=⟨_,rfl⟩
   obtain ⟨m,hm⟩:∃ m,m=lvn p k:=⟨_,rfl⟩
   rw [←hf,←hm] at hs hd hext
   rw [←hf]
   have c1:(wr.alloc (.cells #[.int .i64 (f:Int),.int .i64 (m:Int)] 164)).cell? ⟨wr.heap.size,1,none⟩=some (.int .i64 (m:Int)):=((at_new wr _ _).cell 1).trans rfl
   have hx:=zeroLv
   have B4:Hid (Below w2.heap.size w2 (wr.alloc (.cells #[.int .i64 (f:Int),.int .i64 (m:Int)] 164))):=zh (hbw.alloc hbw.size _)
   have EX:=zh hext;have HS:=zh hs
   have hsz:k*2+2≤C.size:=by rw [RW.out.size];omega
   have SZ:=zh hsz
   clear hext hs hf hm hbw hsz
   go_wp2_with (first
    | (refine wpList_load_is zr 164 _ zr g (k*2) 2 zr _ Tryz.underlying164 zr infoLv C 164 RW.out.row SZ.out #[.int .i64 (f:Int),.int .i64 (m:Int)] EX.out ?_)
    | (refine wpList_store_new zr 164 _ _ zr zr #[.int .i64 (f:Int),.int .i64 (m:Int)] _ _ zr zr infoLv zr (two_one _ _) ?_))
   go_roundw
   case rel=>exact ⟨k+1,by omega,by rw [HS.out];go_num,by go_num,B4.out⟩
   case measure=>simp [intOf];omega
  ·have hke:k=t+1:=by omega
   have hge:¬ (k:Int) < (t:Int)+1:=by omega
   subst hke
   have BW:=zh hbw
   clear hbw
   go_wp2_with fail
   go_ret
   exact ⟨rfl,HB.out.trans ((B2.out.trans (BW.out.mono B2.out.size)).mono BS.out)⟩
theorem itn_0:itn 0=0:=rfl
theorem pitems_any (p:Nat) (w:World) (h1:p≤216):Calls Tryz.prog 45 #[.agg (psC p)] w (VEnd (.int .i64 (itn p:Nat)) w):=by
 rcases Nat.eq_zero_or_pos p with h | h
 ·subst h;exact pitems_0 w
 ·exact pitems_pos p w h h1
theorem pblocks_0 (w:World):Calls Tryz.prog 32 #[.agg (psC 0)] w (VEnd (.int .i64 0) w):=by
 have ha:=at_new w (psC 0) 26
 have hb:Below w.heap.size w (w.alloc (.cells (psC 0) 26)):=(Below.refl _ _).alloc (Nat.le_refl _) _
 have ms:(psC 0).size=1:=rfl
 have c0:(w.alloc (.cells (psC 0) 26)).cell? ⟨w.heap.size,0,none⟩=some (.int .i64 (0:Int)):=((at_new w (psC 0) _).cell 0).trans rfl
 obtain ⟨M,hM⟩:∃ M,M=psC 0:=⟨_,rfl⟩
 rw [←hM] at ha hb ms c0 ⊢
 obtain ⟨w1,hw1⟩:∃ w1,w1=w.alloc (.cells M 26):=⟨_,rfl⟩
 rw [←hw1] at ha hb c0
 have HB:=zh hb;have MS:=zh ms;have AX:=zh ha;have BS:=zh hb.size
 clear hb ms hM ha
 go_enter Tryz.func32,Tryz.ntmps32
 go_upto_region 1 with fail
 rw [←hw1]
 clear hw1
 go_wp2_with fail
 go_ret
 exact ⟨rfl,HB.out⟩
theorem pblocks_pos (p:Nat) (w:World) (h0:1≤p) (h1:p≤216):Calls Tryz.prog 32 #[.agg (psC p)] w (VEnd (.int .i64 (2+2*(itn p:Nat))) w):=by
 have hbig:=(itn_big p h0 h1).2
 obtain ⟨n,hn⟩:∃ n,n=itn p:=⟨_,rfl⟩
 have it:=fun w=>pitems_any p w h1
 rw [←hn] at it hbig ⊢
 clear hn
 have p0:¬ (p:Int)=0:=by omega
 have ha:=at_new w (psC p) 26
 have hb:Below w.heap.size w (w.alloc (.cells (psC p) 26)):=(Below.refl _ _).alloc (Nat.le_refl _) _
 have ms:(psC p).size=1:=rfl
 have c0:(w.alloc (.cells (psC p) 26)).cell? ⟨w.heap.size,0,none⟩=some (.int .i64 (p:Int)):=((at_new w (psC p) _).cell 0).trans rfl
 obtain ⟨M,hM⟩:∃ M,M=psC p:=⟨_,rfl⟩
 rw [←hM] at it ha hb ms c0 ⊢
 obtain ⟨w1,hw1⟩:∃ w1,w1=w.alloc (.cells M 26):=⟨_,rfl⟩
 rw [←hw1] at ha hb c0
 have HB:=zh hb;have MS:=zh ms;have AX:=zh ha;have BS:=zh hb.size
 have IT:=zh it
 clear it hb ms hM ha
 go_enter Tryz.func32,Tryz.ntmps32
 go_upto_region 1 with fail
 rw [←hw1]
 clear hw1
 go_wp2_with (refine wpList_load_all zr 26 _ zr w.heap.size zr _ Tryz.underlying26 zr M _ AX.out (by rw [MS.out];exact infoPS) ?_)
 refine (IT.out _).mono ?_
 rintro e w2 ⟨rfl,hb2⟩
 have B2:=zh hb2
 clear hb2 c0
 go_wp2_with fail
 go_ret
 exact ⟨rfl,HB.out.trans (B2.out.mono BS.out)⟩
theorem pblocks_any (p:Nat) (w:World) (h1:p≤216):Calls Tryz.prog 32 #[.agg (psC p)] w (VEnd (.int .i64 (blksP p)) w):=by
 unfold blksP
 rcases Nat.eq_zero_or_pos p with h | h
 ·subst h;rw [if_pos rfl];exact pblocks_0 w
 ·rw [if_neg (by omega)];exact pblocks_pos p w h h1
theorem itn_le259 (p:Nat) (h1:p≤216):itn p≤259:=by
 rcases Nat.eq_zero_or_pos p with h | h
 ·subst h;decide
 ·exact (itn_big p h h1).2
theorem proot_any (p:Nat) (w:World) (h1:p≤216):Calls Tryz.prog 58 #[.agg (psC p)] w (VEnd (.int .i64 ((itn p:Int) - 1)) w):=by
 have hbig:=itn_le259 p h1
 obtain ⟨n,hn⟩:∃ n,n=itn p:=⟨_,rfl⟩
 have it:=fun w=>pitems_any p w h1
 rw [←hn] at it hbig ⊢
 clear hn
 have ha:=at_new w (psC p) 26
 have hb:Below w.heap.size w (w.alloc (.cells (psC p) 26)):=(Below.refl _ _).alloc (Nat.le_refl _) _
 have ms:(psC p).size=1:=rfl
 have c0:(w.alloc (.cells (psC p) 26)).cell? ⟨w.heap.size,0,none⟩=some (.int .i64 (p:Int)):=((at_new w (psC p) _).cell 0).trans rfl
 obtain ⟨M,hM⟩:∃ M,M=psC p:=⟨_,rfl⟩
 rw [←hM] at it ha hb ms c0 ⊢
 obtain ⟨w1,hw1⟩:∃ w1,w1=w.alloc (.cells M 26):=⟨_,rfl⟩
 rw [←hw1] at ha hb c0
 have HB:=zh hb;have MS:=zh ms;have AX:=zh ha;have BS:=zh hb.size
 have IT:=zh it
 clear it hb ms hM ha
 go_enter Tryz.func58,Tryz.ntmps58
 go_upto_region 1 with fail
 rw [←hw1]
 clear hw1
 go_wp2_with (refine wpList_load_all zr 26 _ zr w.heap.size zr _ Tryz.underlying26 zr M _ AX.out (by rw [MS.out];exact infoPS) ?_)
 refine (IT.out _).mono ?_
 rintro e w2 ⟨rfl,hb2⟩
 have B2:=zh hb2
 clear hb2 c0
 go_wp2_with fail
 go_ret
 exact ⟨rfl,HB.out.trans (B2.out.mono BS.out)⟩
theorem plevel_0 (z:Int) (w:World):Calls Tryz.prog 90 #[.agg (psC 0),.int .i64 z] w (VEnd (.int .i64 (-1)) w):=by
 have lv:=fun w=>plevels_0 w
 have ha:=at_new w (psC 0) 26
 have hb:Below w.heap.size w (w.alloc (.cells (psC 0) 26)):=(Below.refl _ _).alloc (Nat.le_refl _) _
 have ms:(psC 0).size=1:=rfl
 have c0:(w.alloc (.cells (psC 0) 26)).cell? ⟨w.heap.size,0,none⟩=some (.int .i64 (0:Int)):=((at_new w (psC 0) _).cell 0).trans rfl
 obtain ⟨M,hM⟩:∃ M,M=psC 0:=⟨_,rfl⟩
 rw [←hM] at lv ha hb ms c0 ⊢
 obtain ⟨w1,hw1⟩:∃ w1,w1=w.alloc (.cells M 26):=⟨_,rfl⟩
 rw [←hw1] at ha hb c0
 have HB:=zh hb;have MS:=zh ms;have AX:=zh ha;have BS:=zh hb.size
 have LV:=zh lv
 clear hb ms hM ha lv
 go_enter Tryz.func90,Tryz.ntmps90
 go_upto_region 1 with fail
 rw [←hw1]
 clear hw1
 clear c0
 go_wp2_with (refine wpList_load_all zr 26 _ zr w.heap.size zr _ Tryz.underlying26 zr M _ AX.out (by rw [MS.out];exact infoPS) ?_)
 refine (LV.out _).mono ?_
 rintro e w2 ⟨rfl,hb2⟩
 have B2:=zh hb2
 clear hb2
 go_wp2_with fail
 go_loopw [10] (fun v wr=>v=.int .i64 0∧wr=w2) (fun _ _=>0)
 case atStart=>exact ⟨rfl,rfl⟩
 case round=>
  obtain ⟨rfl,rfl⟩:=hrel
  go_wp2_with fail
  go_ret
  exact ⟨rfl,HB.out.trans (B2.out.mono BS.out)⟩
theorem lvl_in (p k:Nat) (z:Int) (_h0:1≤p) (_h1:p≤216) (hk:k < topn p+1) (h:(stn p k:Int)≤z∧z < (stn p k:Int)+(lvn p k:Int)):lvlP p z=(k:Int):=by
 have t:=top_le p
 have s:=stn_lvn p k (by omega)
 have m:=stn_mono p (k+1) (topn p+1) (by omega) (by omega)
 have e:itn p=stn p (topn p+1):=rfl
 obtain ⟨i,rfl⟩:∃ i:Nat,z=(i:Int):=⟨z.toNat,by omega⟩
 have hl:=lev_eq p i k (by omega) (by omega) (by omega)
 unfold lvlP
 rw [if_pos ⟨by omega,by omega⟩,Int.toNat_natCast,hl]
theorem lvl_out (p:Nat) (z:Int) (h:∀ k,k < topn p+1→¬ ((stn p k:Int)≤z∧z < (stn p k:Int)+(lvn p k:Int))):lvlP p z=-1:=by
 unfold lvlP
 refine if_neg (fun hc=>?_)
 obtain ⟨i,rfl⟩:∃ i:Nat,z=(i:Int):=⟨z.toNat,by omega⟩
 have h4:=itn_le p
 have lo:=lev_lo p i
 have hi:=lev_hi p i (by omega)
 have l3:=lev_le p i
 have s:=stn_lvn p (lev p i) l3
 have t:=top_le p
 have e:itn p=stn p (topn p+1):=rfl
 have hlt:lev p i < topn p+1:=by
  rcases Nat.lt_or_ge (lev p i) (topn p+1) with a | a
  ·exact a
  ·have:=stn_mono p (topn p+1) (lev p i) a (by omega)
   omega
 exact h (lev p i) hlt ⟨by omega,by omega⟩
theorem plevel_pos (p:Nat) (z:Int) (w:World) (h0:1≤p) (h1:p≤216):Calls Tryz.prog 90 #[.agg (psC p),.int .i64 z] w (VEnd (.int .i64 (lvlP p z)) w):=by
 have hin:=fun k hk h=>lvl_in p k z h0 h1 hk h
 have hout:=lvl_out p z
 obtain ⟨R,hR⟩:∃ R,R=lvlP p z:=⟨_,rfl⟩
 rw [←hR] at hin hout ⊢
 have ht:=top_le p
 have hbd:=fun k hk=>stn_le p k hk h1
 have lv:=fun w=>plevels_any p w h0 h1
 unfold LvEnd at lv
 obtain ⟨t,htt⟩:∃ t,t=topn p:=⟨_,rfl⟩
 have hle:∀ k,k < t+1→k≤topn p:=fun k hk=>by omega
 rw [←htt] at ht lv hin hout
 have LE:=zh hle;have BD:=zh hbd;have IN:=zh hin;have OUT:=zh hout
 clear hle hbd htt hin hout hR
 have ha:=at_new w (psC p) 26
 have hb:Below w.heap.size w (w.alloc (.cells (psC p) 26)):=(Below.refl _ _).alloc (Nat.le_refl _) _
 have ms:(psC p).size=1:=rfl
 have c0:(w.alloc (.cells (psC p) 26)).cell? ⟨w.heap.size,0,none⟩=some (.int .i64 (p:Int)):=((at_new w (psC p) _).cell 0).trans rfl
 obtain ⟨M,hM⟩:∃ M,M=psC p:=⟨_,rfl⟩
 rw [←hM] at lv ha hb ms c0 ⊢
 obtain ⟨w1,hw1⟩:∃ w1,w1=w.alloc (.cells M 26):=⟨_,rfl⟩
 rw [←hw1] at ha hb c0
 have HB:=zh hb;have MS:=zh ms;have AX:=zh ha;have BS:=zh hb.size
 have LV:=zh lv
 clear lv hb ms hM ha
 go_enter Tryz.func90,Tryz.ntmps90
 go_upto_region 1 with fail
 rw [←hw1]
 clear hw1
 clear c0
 go_wp2_with (refine wpList_load_all zr 26 _ zr w.heap.size zr _ Tryz.underlying26 zr M _ AX.out (by rw [MS.out];exact infoPS) ?_)
 refine (LV.out _).mono ?_
 rintro e w2 ⟨g,C,rfl,hr,hb2⟩
 have B2:=zh hb2;have R2:=zh hr
 clear hb2 hr
 go_wp2_with fail
 go_loopw [10] (fun v wr=>∃ k:Nat,k≤t+1∧v=.int .i64 (k:Int)∧(∀ j,j < k→¬ ((stn p j:Int)≤z∧z < (stn p j:Int)+(lvn p j:Int)))∧Below w2.heap.size w2 wr) (fun v _=>t+1 - (intOf v).toNat)
 case atStart=>exact ⟨0,by omega,rfl,fun j hj=>by omega,Below.refl _ _⟩
 case round=>
  obtain ⟨k,hk,rfl,hno,hbw⟩:=hrel
  have NO:=zh hno
  clear hno
  by_cases hlt:k < t+1
  ·have hlt':(k:Int) < (t:Int)+1:=by omega
   have hlt2:(k:Int) < ((t+1:Nat):Int):=by omega
   have RW:=zh (R2.out.below hbw)
   have hd:=BD.out k (by omega)
   have hext:=RW.out.ext (LE.out k hlt)
   have hin:=IN.out k hlt
   have hns:¬ ((stn p k:Int)≤z∧z < (stn p k:Int)+(lvn p k:Int))→∀ j,j < k+1→¬ ((stn p j:Int)≤z∧z < (stn p j:Int)+(lvn p j:Int)):=fun h j hj=>by
    rcases Nat.lt_or_ge j k with a | a
    ·exact NO.out j a
    ·rw [show j=k by omega];exact h
   obtain ⟨f,hf⟩:∃ f,f=stn p k:=⟨_,rfl⟩
   obtain ⟨m,hm⟩:∃ m,m=lvn p k:=⟨_,rfl⟩
   rw [←hf,←hm] at hd hext hin hns
   have c1:(wr.alloc (.cells #[.int .i64 (f:Int),.int .i64 (m:Int)] 164)).cell? ⟨wr.heap.size,1,none⟩=some (.int .i64 (m:Int)):=((at_new wr _ _).cell 1).trans rfl
   have c0:(wr.alloc (.cells #[.int .i64 (f:Int),.int .i64 (m:Int)] 164)).cell? ⟨wr.heap.size,0,none⟩=some (.int .i64 (f:Int)):=((at_new wr _ _).cell 0).trans rfl
   have hx:=zeroLv
   have B4:Hid (Below w2.heap.size w2 (wr.alloc (.cells #[.int .i64 (f:Int),.int .i64 (m:Int)] 164))):=zh (hbw.alloc hbw.size _)
   have EX:=zh hext;have IK:=zh hin;have NS:=zh hns
   have hsz:k*2+2≤C.size:=by rw [RW.out.size];omega
   have SZ:=zh hsz
   have WI:=zh (fun w=>within_any z (f:Int) (m:Int) w (by omega) (by omega) (by omega))
   clear hext hf hm hbw hsz hin hns
   go_wp2_with (first
    | (refine wpList_load_is zr 164 _ zr g (k*2) 2 zr _ Tryz.underlying164 zr infoLv C 164 RW.out.row SZ.out #[.int .i64 (f:Int),.int .i64 (m:Int)] EX.out ?_)
    | (refine wpList_store_new zr 164 _ _ zr zr #[.int .i64 (f:Int),.int .i64 (m:Int)] _ _ zr zr infoLv zr (two_one _ _) ?_))
   refine (WI.out _).mono ?_
   rintro e w5 ⟨rfl,rfl⟩
   clear c0 c1 hx
   generalize (wr.alloc (.cells #[.int .i64 (f:Int),.int .i64 (m:Int)] 164))=w5 at *
   by_cases hw:(f:Int)≤z∧z < (f:Int)+(m:Int)
   ·rw [decide_eq_true hw]
    have HR:=zh (IK.out hw)
    clear hw
    go_wp2_with fail
    go_ret
    exact ⟨by rw [HR.out];rfl,HB.out.trans ((B2.out.trans (B4.out.mono B2.out.size)).mono BS.out)⟩
   ·rw [decide_eq_false hw]
    have NK:=zh (NS.out hw)
    clear hw
    go_wp2_with fail
    go_roundw
    case rel=>exact ⟨k+1,by omega,by go_num,NK.out,B4.out⟩
    case measure=>simp [intOf];omega
  ·have hke:k=t+1:=by omega
   have hge:¬ (k:Int) < (t:Int)+1:=by omega
   subst hke
   have BW:=zh hbw;have HR:=zh (OUT.out NO.out)
   clear hbw
   go_wp2_with fail
   go_ret
   exact ⟨by rw [HR.out];rfl,HB.out.trans ((B2.out.trans (BW.out.mono B2.out.size)).mono BS.out)⟩
theorem plevel_any (p:Nat) (z:Int) (w:World) (h1:p≤216):Calls Tryz.prog 90 #[.agg (psC p),.int .i64 z] w (VEnd (.int .i64 (lvlP p z)) w):=by
 rcases Nat.eq_zero_or_pos p with h | h
 ·subst h
  have e:lvlP 0 z=-1:=by unfold lvlP;rw [itn_0];exact if_neg (by omega)
  rw [e];exact plevel_0 z w
 ·exact plevel_pos p z w h h1
end Sha
end Go.Proofs.YtlhnegbjoncieaaGreatDoor
