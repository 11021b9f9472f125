/- The document's word of four bytes: its walk. The document's shape: Path, Under: walks (written by shpref3.py). -/
import Derived.Test.YtplmfmpbkjnbaaaGreatDoorBQ07
import Derived.Test.YtplmfmpbkjnbaaaGreatDoorBQ05
set_option maxRecDepth 100000
set_option maxHeartbeats 4000000
namespace Go.Proofs.YtplmfmpbkjnbaaaGreatDoor
namespace Sha
open Go.RowKit Mem
theorem or_sum (a b k:Nat) (hb:b < 2 ^ k):a*2 ^ k ||| b=a*2 ^ k+b:=by
 rw [Nat.mul_comm,Nat.two_pow_add_eq_or_of_lt hb]
theorem lew_nat (a b c d:BitVec 8):(d.setWidth 32 <<< 24 ||| c.setWidth 32 <<< 16 ||| b.setWidth 32 <<< 8 ||| a.setWidth 32:BitVec 32).toNat=a.toNat+256*b.toNat+65536*c.toNat+16777216*d.toNat:=by
 have ha:=a.isLt;have hb:=b.isLt;have hc:=c.isLt;have hd:=d.isLt
 have sh (x:BitVec 8) (k:Nat) (hk:k≤24):(x.setWidth 32 <<< k:BitVec 32).toNat=x.toNat*2 ^ k:=by
  have hx:=x.isLt
  have h2:x.toNat*2 ^ k < 2 ^ 32:=by
   calc x.toNat*2 ^ k < 2 ^ 8*2 ^ k:=Nat.mul_lt_mul_of_pos_right hx (Nat.two_pow_pos k)
    _=2 ^ (8+k):=(Nat.pow_add 2 8 k).symm
    _≤2 ^ 32:=Nat.pow_le_pow_right (by decide) (by omega)
  rw [BitVec.toNat_shiftLeft,BitVec.toNat_setWidth,Nat.shiftLeft_eq,Nat.mod_eq_of_lt (show x.toNat < 2 ^ 32 by omega),Nat.mod_eq_of_lt h2]
 have s0:(a.setWidth 32:BitVec 32).toNat=a.toNat:=by rw [BitVec.toNat_setWidth,Nat.mod_eq_of_lt (by omega)]
 rw [BitVec.toNat_or,BitVec.toNat_or,BitVec.toNat_or,sh d 24 (by decide),sh c 16 (by decide),sh b 8 (by decide),s0]
 rw [or_sum d.toNat (c.toNat*2 ^ 16) 24 (by omega)]
 rw [show d.toNat*2 ^ 24+c.toNat*2 ^ 16=(d.toNat*2 ^ 8+c.toNat)*2 ^ 16 by omega,or_sum _ (b.toNat*2 ^ 8) 16 (by omega)]
 rw [show (d.toNat*2 ^ 8+c.toNat)*2 ^ 16+b.toNat*2 ^ 8=(d.toNat*2 ^ 16+c.toNat*2 ^ 8+b.toNat)*2 ^ 8 by omega,or_sum _ a.toNat 8 (by omega)]
 omega
theorem lew_val (l:Lb8) (i:Nat):B8 (l.getD (4*i) 0)+256*B8 (l.getD (4*i+1) 0)+65536*B8 (l.getD (4*i+2) 0)+16777216*B8 (l.getD (4*i+3) 0)=V (lew l i):=by
 unfold V B8 lew
 rw [lew_nat]
 omega
theorem conv_b (x:BitVec 8) (w:World):(convert 5 23 (.int .u8 (B8 x))).run Tryz.prog w=.ok (.int .u32 (B8 x)) w:=by
 have h0:=B8_lo x;have h1:=B8_hi x
 have e:(convert 5 23 (.int .u8 (B8 x))).run Tryz.prog w=.ok (.int .u32 (IntKind.u32.wrap (B8 x))) w:=by kernel_rfl
 rw [e,u32_id _ h0 (by omega)]
theorem rword_any (v:Value) (l:Lb8) (w:World) (h:Sl w v l) (hl:l.length=4):Calls Tryz.prog 194 #[v] w fun e w'=>e=.returned (.int .u32 (V (lew l 0)))∧Below w.heap.size w w':=by
 obtain ⟨a,cap,rfl,hcap,hr⟩:=h
 rw [hl] at hcap hr ⊢
 obtain ⟨bb,oo,rfl,hbb,hc⟩:=hr (by intro e;rw [e] at hl;simp at hl)
 obtain ⟨x0,h0⟩:∃ x,x=l.getD 0 0:=⟨_,rfl⟩
 obtain ⟨x1,h1⟩:∃ x,x=l.getD 1 0:=⟨_,rfl⟩
 obtain ⟨x2,h2⟩:∃ x,x=l.getD 2 0:=⟨_,rfl⟩
 obtain ⟨x3,h3⟩:∃ x,x=l.getD 3 0:=⟨_,rfl⟩
 have hv:B8 x0+256*B8 x1+65536*B8 x2+16777216*B8 x3=V (lew l 0):=by rw [h0,h1,h2,h3];exact lew_val l 0
 have c0:w.cell? ⟨bb,oo+0,none⟩=some (.int .u8 (B8 x0)):=by rw [h0];exact hc 0 (by decide)
 have c1:w.cell? ⟨bb,oo+1,none⟩=some (.int .u8 (B8 x1)):=by rw [h1];exact hc 1 (by decide)
 have c2:w.cell? ⟨bb,oo+2,none⟩=some (.int .u8 (B8 x2)):=by rw [h2];exact hc 2 (by decide)
 have c3:w.cell? ⟨bb,oo+3,none⟩=some (.int .u8 (B8 x3)):=by rw [h3];exact hc 3 (by decide)
 have k0 (w':World) (hw:Below w.heap.size w w') (k:Nat):w'.cell? ⟨bb,oo+k,none⟩=w.cell? ⟨bb,oo+k,none⟩:=hw.cell (p:=⟨bb,oo+k,none⟩) hbb
 have l0:=B8_lo x0;have l1:=B8_lo x1;have l2:=B8_lo x2;have l3:=B8_lo x3;have u0:=B8_hi x0;have u1:=B8_hi x1;have u2:=B8_hi x2;have u3:=B8_hi x3
 have HV:=zh hv;have C0:=zh c0;have C1:=zh c1;have C2:=zh c2;have C3:=zh c3;have K0:=zh k0
 clear hv c0 c1 c2 c3 k0 hc hr h0 h1 h2 h3
 go_enter Tryz.func194,Tryz.ntmps194
 go_wp2_with fail
 refine wp_region_plan_in (fun w'=>Below w.heap.size w w') (.take 0 (.take 1 (.take 2 (.take 3 (.take 4 (.take 5 (.take 6 (.take 7 (.take 8 (.take 9 (.take 10 (.take 11 (.take 12 (.take 13 (.take 14 (.take 15 (.take 16 (.take 17 (.take 18 (.take 19 (.take 20 (.take 21 (.take 22 .done))))))))))))))))))))))) (by kernel_rfl) (by kernel_rfl) (by kernel_rfl) (Below.refl _ _).drew ?_
 (first | refine Mem.pm1 ?_ | refine Mem.pm2 ?_ | refine Mem.pt ?_ | refine Mem.pf ?_)
 (simp only [Mem.zp,Mem.pb,Mem.pc])
 refine plan_index 63 5 _ _ bb oo 4 cap 0 zr zr zr ze zr (by omega) Tryz.underlying63 (by kernel_rfl) ?_
 (simp only [Mem.zp,Mem.pb,Mem.pc])
 refine plan_cell 5 _ _ _ _ zr zr zr ze (fun w' hw'=>(K0.out w' hw' 0).trans C0.out) Tryz.underlying5 zr ?_
 (simp only [Mem.zp,Mem.pb,Mem.pc])
 refine plan_conv _ _ _ _ _ zr zr zr ze (fun wx=>conv_b x0 wx) ?_
 (simp only [Mem.zp,Mem.pb,Mem.pc])
 (first | refine Mem.pm1 ?_ | refine Mem.pm2 ?_ | refine Mem.pt ?_ | refine Mem.pf ?_)
 (simp only [Mem.zp,Mem.pb,Mem.pc])
 refine plan_index 63 5 _ _ bb oo 4 cap 1 zr zr zr ze zr (by omega) Tryz.underlying63 (by kernel_rfl) ?_
 (simp only [Mem.zp,Mem.pb,Mem.pc])
 refine plan_cell 5 _ _ _ _ zr zr zr ze (fun w' hw'=>(K0.out w' hw' 1).trans C1.out) Tryz.underlying5 zr ?_
 (simp only [Mem.zp,Mem.pb,Mem.pc])
 refine plan_conv _ _ _ _ _ zr zr zr ze (fun wx=>conv_b x1 wx) ?_
 (simp only [Mem.zp,Mem.pb,Mem.pc])
 refine plan_bin _ _ _ _ _ _ _ _ zr zr zr ze ze (fun wx=>o_umul _ _ _ _ (256) (B8 x1) (256*B8 x1) rfl (by omega) (by omega) wx) ?_
 (simp only [Mem.zp,Mem.pb,Mem.pc])
 refine plan_bin _ _ _ _ _ _ _ _ zr zr zr ze ze (fun wx=>o_uadd _ _ _ _ (B8 x0) (256*B8 x1) (B8 x0+256*B8 x1) rfl (by omega) (by omega) wx) ?_
 (simp only [Mem.zp,Mem.pb,Mem.pc])
 (first | refine Mem.pm1 ?_ | refine Mem.pm2 ?_ | refine Mem.pt ?_ | refine Mem.pf ?_)
 (simp only [Mem.zp,Mem.pb,Mem.pc])
 refine plan_index 63 5 _ _ bb oo 4 cap 2 zr zr zr ze zr (by omega) Tryz.underlying63 (by kernel_rfl) ?_
 (simp only [Mem.zp,Mem.pb,Mem.pc])
 refine plan_cell 5 _ _ _ _ zr zr zr ze (fun w' hw'=>(K0.out w' hw' 2).trans C2.out) Tryz.underlying5 zr ?_
 (simp only [Mem.zp,Mem.pb,Mem.pc])
 refine plan_conv _ _ _ _ _ zr zr zr ze (fun wx=>conv_b x2 wx) ?_
 (simp only [Mem.zp,Mem.pb,Mem.pc])
 refine plan_bin _ _ _ _ _ _ _ _ zr zr zr ze ze (fun wx=>o_umul _ _ _ _ (65536) (B8 x2) (65536*B8 x2) rfl (by omega) (by omega) wx) ?_
 (simp only [Mem.zp,Mem.pb,Mem.pc])
 refine plan_bin _ _ _ _ _ _ _ _ zr zr zr ze ze (fun wx=>o_uadd _ _ _ _ (B8 x0+256*B8 x1) (65536*B8 x2) (B8 x0+256*B8 x1+65536*B8 x2) rfl (by omega) (by omega) wx) ?_
 (simp only [Mem.zp,Mem.pb,Mem.pc])
 (first | refine Mem.pm1 ?_ | refine Mem.pm2 ?_ | refine Mem.pt ?_ | refine Mem.pf ?_)
 (simp only [Mem.zp,Mem.pb,Mem.pc])
 refine plan_index 63 5 _ _ bb oo 4 cap 3 zr zr zr ze zr (by omega) Tryz.underlying63 (by kernel_rfl) ?_
 (simp only [Mem.zp,Mem.pb,Mem.pc])
 refine plan_cell 5 _ _ _ _ zr zr zr ze (fun w' hw'=>(K0.out w' hw' 3).trans C3.out) Tryz.underlying5 zr ?_
 (simp only [Mem.zp,Mem.pb,Mem.pc])
 refine plan_conv _ _ _ _ _ zr zr zr ze (fun wx=>conv_b x3 wx) ?_
 (simp only [Mem.zp,Mem.pb,Mem.pc])
 refine plan_bin _ _ _ _ _ _ _ _ zr zr zr ze ze (fun wx=>o_umul _ _ _ _ (16777216) (B8 x3) (16777216*B8 x3) rfl (by omega) (by omega) wx) ?_
 (simp only [Mem.zp,Mem.pb,Mem.pc])
 refine plan_bin _ _ _ _ _ _ _ _ zr zr zr ze ze (fun wx=>o_uadd _ _ _ _ (B8 x0+256*B8 x1+65536*B8 x2) (16777216*B8 x3) (B8 x0+256*B8 x1+65536*B8 x2+16777216*B8 x3) rfl (by omega) (by omega) wx) ?_
 (simp only [Mem.zp,Mem.pb,Mem.pc])
 (first | refine Mem.pm1 ?_ | refine Mem.pm2 ?_ | refine Mem.pt ?_ | refine Mem.pf ?_)
 (simp only [Mem.zp,Mem.pb,Mem.pc])
 refine plan_nil ?_
 go_wp2_with fail
 go_ret
 exact ⟨by rw [←HV.out];rfl,(Below.refl _ _).drew⟩
end Sha
end Go.Proofs.YtplmfmpbkjnbaaaGreatDoor
namespace Go.Proofs.YtplmfmpbkjnbaaaGreatDoor
namespace Sha
open Go.RowKit Mem
set_option maxRecDepth 100000
def OIEnd (w:World) (L:List Int) (e:Ending) (w':World):Prop:=∃ v,e=.returned v∧OwnV w' w.heap.size 3 v (iz L)∧Below w.heap.size w w'
theorem own_liti {w:World} {B:Nat} (u:Int) (hB:B≤w.heap.size):OwnV (w.alloc (.cells #[.int .i64 u] 3)) B 3 (.slice (some ⟨w.heap.size,0,none⟩) 1 1) (iz [u]):=
 ⟨by simp [iz],.inr ⟨w.heap.size,1,#[.int .i64 u],rfl,hB,at_new w _ _,by simp [iz],by simp [maxLen],by simp,by simp [iz]⟩⟩
theorem ownV_low {w:World} {B B':Nat} {e:TypeId} {v:Value} {l:List Value} (h:OwnV w B' e v l) (hB:B≤B'):OwnV w B e v l:=ownsRow_base h hB
theorem rpath_none (p:Nat) (vL vF:Value) (z:Int) (w:World) (h:¬ (0≤z∧z < (p:Int))):Calls Tryz.prog 102 #[.agg (rsC p vL vF),.int .i64 z] w (OIEnd w []):=by
 have hA:=at_new w (rsC p vL vF) 37
 have hb:Below w.heap.size w (w.alloc (.cells (rsC p vL vF) 37)):=(Below.refl _ _).alloc (Nat.le_refl _) _
 have c0:(w.alloc (.cells (rsC p vL vF) 37)).cell? ⟨w.heap.size,0,none⟩=some (.int .i64 (p:Int)):=(hA.cell 0).trans rfl
 obtain ⟨M,hM⟩:∃ M,M=rsC p vL vF:=⟨_,rfl⟩
 rw [←hM] at hA hb c0 ⊢
 obtain ⟨w1,hw1⟩:∃ w1,w1=w.alloc (.cells M 37):=⟨_,rfl⟩
 rw [←hw1] at hb c0
 have HB:=zh hb
 clear hA hb hM
 by_cases h0:0≤z
 ·have g:¬ z < (p:Int):=fun h1=>h ⟨h0,h1⟩
  clear h
  go_enter Tryz.func102,Tryz.ntmps102
  go_upto_region 1 with fail
  rw [←hw1]
  clear hw1
  go_wp2_with fail
  go_ret
  exact ⟨_,rfl,OwnV.nil _ _ _,HB.out⟩
 ·clear h
  go_enter Tryz.func102,Tryz.ntmps102
  go_upto_region 1 with fail
  rw [←hw1]
  clear hw1
  go_wp2_with fail
  go_ret
  exact ⟨_,rfl,OwnV.nil _ _ _,HB.out⟩
theorem rpath_some (p:Nat) (vL vF:Value) (x:Nat) (w:World) (hR:RS w p vL vF) (h0:1≤p) (h1:p≤216) (hx:x < p):Calls Tryz.prog 102 #[.agg (rsC p vL vF),.int .i64 (x:Int)] w (OIEnd w (pathZ p x (topn p+1))):=by
 have hpar:=fun (z:Int) wx h=>rparent_any p vL vF z wx h h0 h1
 have hmore:=fun k hk=>itp_par p x k h0 h1 hx hk
 have hend:=itp_end p x h0 h1 hx
 have htop:=top_le p
 have hA:=at_new w (rsC p vL vF) 37
 have hb:Below w.heap.size w (w.alloc (.cells (rsC p vL vF) 37)):=(Below.refl _ _).alloc (Nat.le_refl _) _
 have c0:(w.alloc (.cells (rsC p vL vF) 37)).cell? ⟨w.heap.size,0,none⟩=some (.int .i64 (p:Int)):=(hA.cell 0).trans rfl
 have hR1:=hR.below hb
 have ms:(rsC p vL vF).size=3:=rfl
 obtain ⟨M,hM⟩:∃ M,M=rsC p vL vF:=⟨_,rfl⟩
 rw [←hM] at hpar hA hb c0 hR1 ms ⊢
 obtain ⟨w1,hw1⟩:∃ w1,w1=w.alloc (.cells M 37):=⟨_,rfl⟩
 rw [←hw1] at hA hb c0 hR1
 have hp0:pathZ p x 1=[(x:Int)]:=rfl
 have hps:=fun n=>pathZ_succ p x n
 have hpl:=fun n=>pathZ_length p x n
 have hpg:=fun n=>pathZ_get p x (n+1) n (Nat.lt_succ_self n)
 obtain ⟨PP,hPP⟩:∃ P,P=pathZ p x:=⟨_,rfl⟩
 rw [←hPP] at hp0 hps hpl hpg ⊢
 obtain ⟨m,hm⟩:∃ m,m=topn p:=⟨_,rfl⟩
 rw [←hm] at hmore hend htop ⊢
 have hx0:¬ (x:Int) < 0:=by omega
 have hxp:(x:Int) < (p:Int):=by omega
 have o1:=own_liti (w:=w1) (B:=w1.heap.size) (x:Int) (Nat.le_refl _)
 have b1:Below w1.heap.size w1 (w1.alloc (.cells #[.int .i64 (x:Int)] 3)):=(Below.refl _ _).alloc (Nat.le_refl _) _
 have PARZ:=zh hpar;have AX:=zh hA;have HB:=zh hb;have MS:=zh ms;have R1:=zh hR1;have MORE:=zh hmore;have END:=zh hend;have P0:=zh hp0;have PS:=zh hps;have PL:=zh hpl;have PG:=zh hpg;have LT0:=zh hA.lt;have O1:=zh o1;have B1:=zh b1
 clear hpar hA hb ms hR1 hmore hend hp0 hps hpl hpg hPP hm hM hR h0 h1 hx o1 b1
 go_enter Tryz.func102,Tryz.ntmps102
 go_upto_region 1 with fail
 rw [←hw1]
 clear hw1
 go_wp2_with fail
 generalize w1.alloc (.cells #[.int .i64 (x:Int)] 3)=w2 at *
 obtain ⟨v0,hv0⟩:∃ v,v=Value.slice (some ⟨w1.heap.size,0,none⟩) 1 1:=⟨_,rfl⟩
 rw [←hv0] at O1 ⊢
 clear hv0
 go_loopw [5,6] (fun vo v wr=>∃ k:Nat,k≤m∧v=.int .i64 k∧OwnV wr w1.heap.size 3 vo (iz (PP (k+1)))∧Below w1.heap.size w1 wr) (fun _ v _=>m+1 - (intOf v).toNat)
 case atStart=>exact ⟨0,by omega,rfl,by rw [P0.out];exact O1.out,B1.out⟩
 case round=>
  obtain ⟨k,hk,rfl,ho,hbw⟩:=hrel
  obtain ⟨a5,c5,e5,_,hr5⟩:=OwnV.open ho
  obtain ⟨g5,e6,_,hlt5,hc5⟩:=hr5 (by intro e;have h:=PL.out (k+1);rw [show PP (k+1)=[] by simpa [iz] using e] at h;simp at h)
  rw [iz_length,PL.out] at e5
  subst e6 e5
  have cy:=hc5 k _ (iz_get (PP (k+1)) k (by rw [PL.out];omega))
  rw [PG.out] at cy
  have hk10:(k:Int) < 10:=by omega
  have AW:=zh (AX.out.below hbw AX.out.lt);have RW:=zh (R1.out.below hbw)
  have SUB:=zh (fun (t t2:TypeId) (a b:Operand) (wx:World)=>o_isub (P:=Tryz.prog) t t2 a b ((k+1:Nat):Int) 1 (k:Int) (by omega) (by omega) (by omega) wx)
  have D0:Hid (Below wr.heap.size wr wr.drew):=zh (Below.refl _ _).drew
  have OO:=zh ho;have BW:=zh hbw;have LG:=zh hlt5
  by_cases hlt:k < m
  ·have hpz:=MORE.out k hlt
   have hsn:=PS.out (k+1)
   obtain ⟨y,hy⟩:∃ y:Int,y=(itp p x k:Int):=⟨_,rfl⟩
   obtain ⟨y2,hy2⟩:∃ y:Int,y=(itp p x (k+1):Int):=⟨_,rfl⟩
   obtain ⟨y3,hy3⟩:∃ y:Int,y=((parN p (itp p x k)).2:Int):=⟨_,rfl⟩
   rw [←hy,←hy2,←hy3] at hpz
   rw [←hy] at cy
   rw [←hy2] at hsn
   have par:∀ wx,RS wx p vL vF→Calls Tryz.prog 64 #[.agg M,.int .i64 y] wx fun e w'=>e=.returned (.tuple #[.int .i64 y2,.int .i64 y3,.bool true])∧Below wx.heap.size wx w':=fun wx h=>by
    have hh:=PARZ.out y wx h
    rw [hpz] at hh
    exact hh
   have PAR:=zh par;have CY:=zh cy;have SN:=zh hsn
   clear hpz hy hy2 hy3 par cy hsn ho hbw hlt5 hr5 hc5
   go_wp2_with fail
   refine wp_region_plan_in (fun x'=>Below wr.heap.size wr x') (.take 0 (.take 1 (.take 2 (.take 3 (.take 4 (.take 5 (.take 6 (.sole 7 (.take 8 (.take 9 (.take 10 (.take 11 (.take 12 (.take 13 (.take 14 .done))))))))))))))) (by kernel_rfl) (by kernel_rfl) (by kernel_rfl) D0.out ?_
   refine plan_row 37 _ w.heap.size _ M 37 zr zr zr ze (fun w' hw'=>AW.out.below hw' AW.out.lt) Tryz.underlying37 zr (by rw [MS.out];exact infoRS) ?_
   (simp only [Mem.zp,Mem.pb,Mem.pc])
   iterate 2 ((first | refine Mem.pm1 ?_ | refine Mem.pm2 ?_ | refine Mem.pt ?_ | refine Mem.pf ?_);(simp only [Mem.zp,Mem.pb,Mem.pc]))
   refine plan_len _ _ _ (some ⟨g5,0,none⟩) (k+1) c5 zr zr zr zr ze (fun w'=>by first | rfl | go_simp) ?_
   (simp only [Mem.zp,Mem.pb,Mem.pc])
   refine plan_bin _ _ _ _ _ _ _ (.int .i64 (k:Int)) zr zr zr ze zr (fun wx=>SUB.out _ _ _ _ wx) ?_
   (simp only [Mem.zp,Mem.pb,Mem.pc])
   refine plan_index 35 3 _ _ g5 0 (k+1) c5 k zr zr zr ze ze (by omega) Tryz.underlying35 (by kernel_rfl) ?_
   rw [Nat.zero_add]
   (simp only [Mem.zp,Mem.pb,Mem.pc])
   refine plan_cell 3 _ ⟨g5,k,none⟩ (.int .i64 y) _ zr zr zr ze (fun w' hw'=>(Below.cell hw' (p:=⟨g5,k,none⟩) LG.out).trans CY.out) Tryz.underlying3 zr ?_
   (simp only [Mem.zp,Mem.pb,Mem.pc])
   refine plan_call 64 _ _ _ (by kernel_rfl) zr zr zr (by first | exact Mem.ev_none _ | (simp only [List.map_toArray,List.map_cons,List.map_nil,Mem.ev_tmp,List.getD_cons_succ,List.getD_cons_zero] <;> rfl)) ?_
   refine (PAR.out _ (RW.out.below D0.out)).mono ?_
   rintro e z7 ⟨rfl,hb7⟩
   have E7:Hid (Below wr.heap.size wr z7):=zh (D0.out.trans (hb7.mono D0.out.size))
   clear hb7
   refine ⟨_,rfl,E7.out,?_⟩
   (simp only [Mem.zp,Mem.pb,Mem.pc])
   (first | refine Mem.pm1 ?_ | refine Mem.pm2 ?_ | refine Mem.pt ?_ | refine Mem.pf ?_)
   (simp only [Mem.zp,Mem.pb,Mem.pc])
   refine plan_extract _ _ #[(.int .i64 y2),(.int .i64 y3),(.bool true)] (.int .i64 y2) zr zr zr ze zr ?_
   (simp only [Mem.zp,Mem.pb,Mem.pc])
   refine plan_extract _ _ #[(.int .i64 y2),(.int .i64 y3),(.bool true)] (.int .i64 y3) zr zr zr ze zr ?_
   (simp only [Mem.zp,Mem.pb,Mem.pc])
   refine plan_extract _ _ #[(.int .i64 y2),(.int .i64 y3),(.bool true)] (.bool true) zr zr zr ze zr ?_
   (simp only [Mem.zp,Mem.pb,Mem.pc])
   iterate 3 ((first | refine Mem.pm1 ?_ | refine Mem.pm2 ?_ | refine Mem.pt ?_ | refine Mem.pf ?_);(simp only [Mem.zp,Mem.pb,Mem.pc]))
   refine plan_nil ?_
   have OW:=zh (OwnV.below OO.out E7.out);have BD:Hid (Below w1.heap.size w1 z7):=zh (BW.out.trans (E7.out.mono BW.out.size))
   have HLN:Hid ((iz (PP (k+1))).length=k+1):=zh (by rw [iz_length,PL.out])
   go_wp2_with (at_builtin;refine wpList_append_lit zr _ _ 35 zr (.int .i64 y2) (.int .i64 0) 8 elemInt zr zr OW.out zr zr (by rw [HLN.out];omega) (by rw [HLN.out];omega) (BD.out.size) ?_;intro v6 w6 ho6 _ hb6 _;have O6:Hid (OwnV w6 w1.heap.size 3 v6 (iz (PP (k+1+1)))):=zh (by rw [SN.out,iz_snoc];exact ho6);have B6:Hid (Below w1.heap.size w1 w6):=zh (BD.out.trans hb6);clear ho6 hb6)
   go_roundw
   case rel=>exact ⟨k+1,by omega,by go_num,O6.out,B6.out⟩
   case measure=>simp [intOf];omega
  ·have hkm:k=m:=by omega
   subst hkm
   have hpz:=END.out
   obtain ⟨y,hy⟩:∃ y:Int,y=(itp p x k:Int):=⟨_,rfl⟩
   rw [←hy] at hpz cy
   have par:∀ wx,RS wx p vL vF→Calls Tryz.prog 64 #[.agg M,.int .i64 y] wx fun e w'=>e=.returned (.tuple #[.int .i64 0,.int .i64 0,.bool false])∧Below wx.heap.size wx w':=fun wx h=>by
    have hh:=PARZ.out y wx h
    rw [hpz] at hh
    exact hh
   have PAR:=zh par;have CY:=zh cy
   clear hpz hy par cy ho hbw hlt5 hr5 hc5
   go_wp2_with fail
   refine wp_region_plan_in (fun x'=>Below wr.heap.size wr x') (.take 0 (.take 1 (.take 2 (.take 3 (.take 4 (.take 5 (.take 6 (.sole 7 (.take 8 (.take 9 (.take 10 (.take 11 (.take 12 (.take 13 (.take 14 .done))))))))))))))) (by kernel_rfl) (by kernel_rfl) (by kernel_rfl) D0.out ?_
   refine plan_row 37 _ w.heap.size _ M 37 zr zr zr ze (fun w' hw'=>AW.out.below hw' AW.out.lt) Tryz.underlying37 zr (by rw [MS.out];exact infoRS) ?_
   (simp only [Mem.zp,Mem.pb,Mem.pc])
   iterate 2 ((first | refine Mem.pm1 ?_ | refine Mem.pm2 ?_ | refine Mem.pt ?_ | refine Mem.pf ?_);(simp only [Mem.zp,Mem.pb,Mem.pc]))
   refine plan_len _ _ _ (some ⟨g5,0,none⟩) (k+1) c5 zr zr zr zr ze (fun w'=>by first | rfl | go_simp) ?_
   (simp only [Mem.zp,Mem.pb,Mem.pc])
   refine plan_bin _ _ _ _ _ _ _ (.int .i64 (k:Int)) zr zr zr ze zr (fun wx=>SUB.out _ _ _ _ wx) ?_
   (simp only [Mem.zp,Mem.pb,Mem.pc])
   refine plan_index 35 3 _ _ g5 0 (k+1) c5 k zr zr zr ze ze (by omega) Tryz.underlying35 (by kernel_rfl) ?_
   rw [Nat.zero_add]
   (simp only [Mem.zp,Mem.pb,Mem.pc])
   refine plan_cell 3 _ ⟨g5,k,none⟩ (.int .i64 y) _ zr zr zr ze (fun w' hw'=>(Below.cell hw' (p:=⟨g5,k,none⟩) LG.out).trans CY.out) Tryz.underlying3 zr ?_
   (simp only [Mem.zp,Mem.pb,Mem.pc])
   refine plan_call 64 _ _ _ (by kernel_rfl) zr zr zr (by first | exact Mem.ev_none _ | (simp only [List.map_toArray,List.map_cons,List.map_nil,Mem.ev_tmp,List.getD_cons_succ,List.getD_cons_zero] <;> rfl)) ?_
   refine (PAR.out _ (RW.out.below D0.out)).mono ?_
   rintro e z7 ⟨rfl,hb7⟩
   have E7:Hid (Below wr.heap.size wr z7):=zh (D0.out.trans (hb7.mono D0.out.size))
   clear hb7
   refine ⟨_,rfl,E7.out,?_⟩
   (simp only [Mem.zp,Mem.pb,Mem.pc])
   (first | refine Mem.pm1 ?_ | refine Mem.pm2 ?_ | refine Mem.pt ?_ | refine Mem.pf ?_)
   (simp only [Mem.zp,Mem.pb,Mem.pc])
   refine plan_extract _ _ #[(.int .i64 0),(.int .i64 0),(.bool false)] (.int .i64 0) zr zr zr ze zr ?_
   (simp only [Mem.zp,Mem.pb,Mem.pc])
   refine plan_extract _ _ #[(.int .i64 0),(.int .i64 0),(.bool false)] (.int .i64 0) zr zr zr ze zr ?_
   (simp only [Mem.zp,Mem.pb,Mem.pc])
   refine plan_extract _ _ #[(.int .i64 0),(.int .i64 0),(.bool false)] (.bool false) zr zr zr ze zr ?_
   (simp only [Mem.zp,Mem.pb,Mem.pc])
   iterate 3 ((first | refine Mem.pm1 ?_ | refine Mem.pm2 ?_ | refine Mem.pt ?_ | refine Mem.pf ?_);(simp only [Mem.zp,Mem.pb,Mem.pc]))
   refine plan_nil ?_
   go_wp2_with fail
   go_ret
   exact ⟨_,rfl,ownV_low (OwnV.below OO.out E7.out) HB.out.size,HB.out.trans ((BW.out.trans (E7.out.mono BW.out.size)).mono HB.out.size)⟩
theorem rpath_any (p:Nat) (vL vF:Value) (z:Int) (w:World) (hR:RS w p vL vF) (h0:1≤p) (h1:p≤216):Calls Tryz.prog 102 #[.agg (rsC p vL vF),.int .i64 z] w (OIEnd w (WZ p z)):=by
 unfold WZ
 by_cases h:0≤z∧z < (p:Int)
 ·rw [if_pos h]
  obtain ⟨x,rfl⟩:∃ x:Nat,z=(x:Int):=⟨z.toNat,by omega⟩
  exact rpath_some p vL vF x w hR h0 h1 (by omega)
 ·rw [if_neg h];exact rpath_none p vL vF z w h
end Sha
end Go.Proofs.YtplmfmpbkjnbaaaGreatDoor
