/- The program's shape: Path. -/
import Derived.Test.YtplmfmpbkjnbaaaGreatDoorBQ21
set_option maxRecDepth 100000
set_option maxHeartbeats 2000000
namespace Go.Proofs.YtplmfmpbkjnbaaaGreatDoor
namespace Sha
open Go.RowKit Mem
set_option maxRecDepth 100000
theorem own_lit1 {w:World} {B:Nat} (x:Int) (hB:B≤w.heap.size):OwnV (w.alloc (.cells #[.int .i64 x] 3)) B 3 (.slice (some ⟨w.heap.size,0,none⟩) 1 1) (iz [x]):=
 World.ownsRow_lit w #[.int .i64 x] 1 hB (by decide) zr
theorem ppath_out (p:Nat) (z:Int) (w:World) (h1:p≤216) (h:¬ (0≤z∧z < (p:Int))):Calls Tryz.prog 94 #[.agg (psC p),.int .i64 z] w (IEnd w []):=by
 have WI:=zh (fun w=>within_any z 0 (p:Int) w (by omega) (by omega) (by omega))
 have NZ:Hid (decide (0≤z∧z < 0+(p:Int))=false):=zh (decide_eq_false (fun hh=>h ⟨by omega,by omega⟩))
 clear h
 have ha:=at_new w (psC p) 31
 have hb:Below w.heap.size w (w.alloc (.cells (psC p) 31)):=(Below.refl _ _).alloc (Nat.le_refl _) _
 have ms:(psC p).size=1:=rfl
 have c0:(w.alloc (.cells (psC p) 31)).cell? ⟨w.heap.size,0,none⟩=some (.int .i64 (p:Int)):=((at_new w (psC p) _).cell 0).trans rfl
 obtain ⟨M,hM⟩:∃ M,M=psC p:=⟨_,rfl⟩
 rw [←hM] at ha hb ms c0 ⊢
 obtain ⟨w1,hw1⟩:∃ w1,w1=w.alloc (.cells M 31):=⟨_,rfl⟩
 rw [←hw1] at ha hb c0
 have HB:=zh hb;have MS:=zh ms;have AX:=zh ha;have BS:=zh hb.size
 clear hb ms hM ha
 go_enter Tryz.func94,Tryz.ntmps94
 go_upto_region 1 with fail
 rw [←hw1]
 clear hw1
 go_wp2_with fail
 refine (WI.out _).mono ?_
 rintro e w3 ⟨rfl,rfl⟩
 rw [NZ.out]
 clear c0
 go_wp2_with fail
 go_ret
 exact ⟨_,rfl,SlI.nil _,HB.out⟩
theorem ppath_in (p x:Nat) (w:World) (h0:1≤p) (h1:p≤216) (hx:x < p):Calls Tryz.prog 94 #[.agg (psC p),.int .i64 (x:Int)] w (IEnd w (pathZ p x (topn p+1))):=by
 have WI:=zh (fun w=>within_any (x:Int) 0 (p:Int) w (by omega) (by omega) (by omega))
 have YZ:Hid (decide (0≤(x:Int)∧(x:Int) < 0+(p:Int))=true):=zh (decide_eq_true ⟨by omega,by omega⟩)
 have pr:=fun z w=>pparent_any p z w h1
 have hgo:=fun k hk=>itp_par p x k h0 h1 hx hk
 have hend:=itp_end p x h0 h1 hx
 have ht:=top_le p
 have hs:=fun n=>pathZ_succ p x n
 have hln:=fun n=>pathZ_length p x n
 obtain ⟨t,htt⟩:∃ t,t=topn p:=⟨_,rfl⟩
 rw [←htt] at ht hend hgo ⊢
 have GO:=zh hgo;have EN:=zh hend;have SN:=zh hs;have LN:=zh hln
 have hz0:itp p x 0=x:=rfl
 have HZ:=zh hz0
 clear hgo hend hs hln htt hz0
 have ha:=at_new w (psC p) 31
 have hb:Below w.heap.size w (w.alloc (.cells (psC p) 31)):=(Below.refl _ _).alloc (Nat.le_refl _) _
 have ms:(psC p).size=1:=rfl
 have c0:(w.alloc (.cells (psC p) 31)).cell? ⟨w.heap.size,0,none⟩=some (.int .i64 (p:Int)):=((at_new w (psC p) _).cell 0).trans rfl
 obtain ⟨M,hM⟩:∃ M,M=psC p:=⟨_,rfl⟩
 rw [←hM] at pr ha hb ms c0 ⊢
 obtain ⟨w1,hw1⟩:∃ w1,w1=w.alloc (.cells M 31):=⟨_,rfl⟩
 rw [←hw1] at ha hb c0
 have HB:=zh hb;have MS:=zh ms;have AX:=zh ha;have BS:=zh hb.size
 have PR:=zh pr
 clear pr hb ms hM ha
 go_enter Tryz.func94,Tryz.ntmps94
 go_upto_region 1 with fail
 rw [←hw1]
 clear hw1
 go_wp2_with fail
 refine (WI.out _).mono ?_
 rintro e w3 ⟨rfl,rfl⟩
 rw [YZ.out]
 clear c0
 have o1:=zh (own_lit1 (w:=w3) (x:Int) (Nat.le_refl _))
 have bb1:Below w3.heap.size w3 (w3.alloc (.cells #[.int .i64 (x:Int)] 3)):=(Below.refl _ _).alloc (Nat.le_refl _) _
 have A1:=zh (AX.out.below bb1 AX.out.lt);have BB1:=zh bb1
 clear bb1
 go_upto_region 4 with fail
 obtain ⟨g1,hg1⟩:∃ g,g=w3.heap.size:=⟨_,rfl⟩
 rw [←hg1] at o1
 rw [←hg1]
 have HG:=zh hg1
 clear hg1
 generalize (w3.alloc (.cells #[.int .i64 (x:Int)] 3))=w4 at *
 go_wp2_with (refine wpList_load_all zr 31 _ zr w.heap.size zr _ Tryz.underlying31 zr M _ A1.out (by rw [MS.out];exact infoPS) ?_)
 refine (PR.out _ _).mono ?_
 rintro e w5 ⟨rfl,hb5⟩
 have O5:=zh (OwnV.below o1.out hb5)
 have B5:Hid (Below w3.heap.size w3 w5):=zh (BB1.out.trans (hb5.mono BB1.out.size))
 have A5:=zh (A1.out.below hb5 A1.out.lt)
 clear hb5 o1 A1 BB1
 obtain ⟨pz,hpz⟩:∃ pz:Nat→Int × Int × Bool,∀ k,pz k=PZ p (itp p x k:Int):=⟨_,fun _=>rfl⟩
 have PZF:=zh hpz
 rw [show PZ p (x:Int)=pz 0 from (hpz 0).symm]
 clear hpz
 go_wp2_with fail
 go_loopw [5,6,8] (fun vp vn vo wr=>∃ k:Nat,k≤t∧vn=.int .i64 (pz k).1∧vo=.bool (pz k).2.2∧OwnV wr w3.heap.size 3 vp (iz (pathZ p x (k+1)))∧Below w3.heap.size w3 wr) (fun vp _ _ _=>t+1 - slen vp)
 case atStart=>exact ⟨0,by omega,rfl,rfl,by rw [SN.out 0,←HG.out];exact O5.out,B5.out⟩
 case round=>
  obtain ⟨k,hk,rfl,rfl,ho,hbw⟩:=hrel
  have OW:=zh ho;have BW:=zh hbw
  have AW:=zh (At.below (AX.out) hbw AX.out.lt)
  have hl:(iz (pathZ p x (k+1))).length=k+1:=by rw [iz_length,LN.out]
  obtain ⟨a5,c5,rfl,_⟩:=OwnV.open ho
  rw [hl] at OW ⊢
  have HL:=zh hl
  clear ho hbw hl
  by_cases hlt:k < t
  ·have hpk:=PZF.out k
   rw [GO.out k hlt] at hpk
   rw [hpk]
   have hsn:=SN.out (k+1)
   obtain ⟨y,hy⟩:∃ y,y=itp p x (k+1):=⟨_,rfl⟩
   have hpn:=PZF.out (k+1)
   rw [←hy] at hsn hpn
   rw [←hy]
   have HSN:=zh hsn;have HPN:=zh hpn
   clear hpk hsn hpn hy
   go_upto_region 6 with (at_builtin;refine wpList_append_lit zr _ _ 35 zr (.int .i64 (y:Int)) (.int .i64 0) 8 elemInt zr zr OW.out zr zr (by rw [HL.out];omega) (by rw [HL.out];omega) (BW.out.size) ?_;intro v6 w6 ho6 _ hb6 _;have O6:Hid (OwnV w6 w3.heap.size 3 v6 (iz (pathZ p x (k+1+1)))):=zh (by rw [HSN.out,iz_snoc];exact ho6);have B6:Hid (Below w3.heap.size w3 w6):=zh (BW.out.trans hb6);clear ho6 hb6)
   have A6:=zh (At.below (AX.out) B6.out AX.out.lt)
   go_wp2_with (refine wpList_load_all zr 31 _ zr w.heap.size zr _ Tryz.underlying31 zr M _ A6.out (by rw [MS.out];exact infoPS) ?_)
   refine (PR.out _ _).mono ?_
   rintro e w7 ⟨rfl,hb7⟩
   have O7:=zh (OwnV.below O6.out (hb7))
   have B7:Hid (Below w3.heap.size w3 w7):=zh (B6.out.trans (hb7.mono B6.out.size))
   clear hb7 O6 B6 A6 OW BW AW
   have hl7:(iz (pathZ p x (k+1+1))).length=k+1+1:=by rw [iz_length,LN.out]
   obtain ⟨a7,c7,h7,_⟩:=OwnV.open O7.out
   rw [hl7] at h7
   subst h7
   clear hl7
   rw [←HPN.out]
   go_wp2_with fail
   go_roundw
   case rel=>exact ⟨k+1,by omega,rfl,rfl,O7.out,B7.out⟩
   case measure=>simp [slen];omega
  ·have hkt:k=t:=by omega
   subst hkt
   have hpk:=PZF.out k
   rw [EN.out] at hpk
   rw [hpk]
   clear hpk
   go_wp2_with fail
   go_ret
   exact ⟨_,rfl,ownV_sli OW.out,HB.out.trans (BW.out.mono BS.out)⟩
theorem ppath_any (p:Nat) (z:Int) (w:World) (h1:p≤216):Calls Tryz.prog 94 #[.agg (psC p),.int .i64 z] w (IEnd w (WZ p z)):=by
 unfold WZ
 by_cases h:0≤z∧z < (p:Int)
 ·rw [if_pos h]
  obtain ⟨x,rfl⟩:∃ x:Nat,z=(x:Int):=⟨z.toNat,by omega⟩
  rw [Int.toNat_natCast]
  exact ppath_in p x w (by omega) h1 (by omega)
 ·rw [if_neg h];exact ppath_out p z w h1 h
end Sha
end Go.Proofs.YtplmfmpbkjnbaaaGreatDoor
