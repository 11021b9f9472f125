/- My own texts, merged. -/
import Derived.Test.YtlhnegbjoncieaaGreatDoorBL07
set_option maxRecDepth 100000
set_option maxHeartbeats 1000000
namespace Go.Proofs.YtlhnegbjoncieaaGreatDoor
namespace Sha
open Go.RowKit Mem
theorem conv_b (x:BitVec 8) (w:World):(convert 5 36 (.int .u8 (B8 x))).run Tryz.prog w=.ok (.int .u32 (B8 x)) w:=by
 have h0:=B8_lo x;have h1:=B8_hi x
 have e:(convert 5 36 (.int .u8 (B8 x))).run Tryz.prog w=.ok (.int .u32 (IntKind.u32.wrap (B8 x))) w:=by kernel_rfl
 rw [e,u32_id _ h0 (by omega)]
theorem crotl_val (x:BitVec 32) (k:Nat) (hk:k < 32) :
 bits BinOp.or IntKind.u32 (V x*2 ^ k % 4294967296) (V x / 2 ^ (32 - k))=V (x.rotateLeft k):=by
 have e1:V x*2 ^ k % 4294967296=V (x <<< k):=by
  unfold V
  rw [BitVec.toNat_shiftLeft,Nat.shiftLeft_eq]
  show _=((x.toNat*2 ^ k % 4294967296:Nat):Int)
  rw [Int.natCast_emod,Int.natCast_mul,Int.natCast_pow];rfl
 have e2:V x / 2 ^ (32 - k)=V (x >>> (32 - k)):=by
  unfold V
  rw [BitVec.toNat_ushiftRight,Nat.shiftRight_eq_div_pow,Int.natCast_ediv,Int.natCast_pow];rfl
 rw [e1,e2,r_or,BitVec.rotateLeft_def,Nat.mod_eq_of_lt hk]
theorem crotl_any (x:BitVec 32) (n:Int) (k:Nat) (w:World) (hk:bits BinOp.and IntKind.u64 (IntKind.u64.wrap n) 31=(k:Int)) (hk':k < 32) :
 Calls Tryz.prog 209 #[.int .u32 (V x),.int .i64 n] w fun e w'=>e=.returned (.int .u32 (V (x.rotateLeft k)))∧w=w':=by
 have hv0:=V_lo x
 have hv1:=V_hi x
 go_enter Tryz.func209,Tryz.ntmps209
 go_wp2
 go_ret
 exact ⟨congrArg (fun q=>Ending.returned (.int .u32 q)) (crotl_val x k hk'),rfl⟩
theorem rot_any (x:BitVec 32) (n:Nat) (w:World) (hn:n < 32) :
 Calls Tryz.prog 209 #[.int .u32 (V x),.int .i64 (n:Int)] w fun e w'=>e=.returned (.int .u32 (V (x.rotateLeft n)))∧w=w':=
 crotl_any x n n w (by rw [and31];omega) hn
theorem quarter_any (q:Q4) (w:World):Calls Tryz.prog 207 #[.agg (qOf q)] w fun e w'=>e=.returned (.agg (qOf (qr q)))∧Below w.heap.size w w':=by
 obtain ⟨X,hX⟩:∃ X,X=Z4:=⟨_,rfl⟩
 have hx:=zero4
 rw [←hX] at hx
 have hXs:X.size=4:=by rw [hX];rfl
 obtain ⟨C,hC⟩:∃ C,C=qOf q:=⟨_,rfl⟩
 have c0:C[0]?=some (.int .u32 (V q.a)):=by rw [hC];rfl
 have c1:C[1]?=some (.int .u32 (V q.b)):=by rw [hC];rfl
 have c2:C[2]?=some (.int .u32 (V q.c)):=by rw [hC];rfl
 have c3:C[3]?=some (.int .u32 (V q.d)):=by rw [hC];rfl
 rw [←hC]
 have a1:At ((w.alloc (.cells C 293)).alloc (.cells X 293)) w.heap.size C 293:=(at_new w C _).alloc _
 have r1:At ((w.alloc (.cells C 293)).alloc (.cells X 293)) (w.heap.size+1) X 293:=by
  have h:=at_new (w.alloc (.cells C 293)) X 293
  simpa using h
 have b1:Below w.heap.size w ((w.alloc (.cells C 293)).alloc (.cells X 293)):=((Below.refl _ _).alloc (Nat.le_refl _) _).alloc (by simp) _
 have XS:=zh hXs;have C0:=zh c0;have C1:=zh c1;have C2:=zh c2;have C3:=zh c3;have A1:=zh a1;have R1:=zh r1;have B1:=zh b1
 clear hXs c0 c1 c2 c3 a1 r1 b1 hX hC
 go_enter Tryz.func207,Tryz.ntmps207
 go_wp2_with fail
 generalize (w.alloc (.cells C 293)).alloc (.cells X 293)=w1 at *
 refine wp_region_plan_in (fun w'=>Below w1.heap.size w1 w') (.take 0 (.take 1 (.take 2 (.take 3 (.take 4 (.take 5 (.take 6 (.take 7 (.take 8 (.take 9 (.take 10 (.take 11 .done)))))))))))) (by kernel_rfl) (by kernel_rfl) (by kernel_rfl) (Below.refl _ _).drew ?_
 refine plan_index_arr 293 36 4 _ _ w.heap.size 0 1 0 zr zr zr ze zr (by omega) Tryz.underlying293 (by kernel_rfl) (by decide) ?_
 (simp only [Mem.zp,Mem.pb,Mem.pc])
 refine plan_cell 36 _ _ _ _ zr zr zr ze (fun w' hw'=>((A1.out.below hw' A1.out.lt).cell _).trans C0.out) Tryz.underlying36 zr ?_
 (simp only [Mem.zp,Mem.pb,Mem.pc])
 refine plan_index_arr 293 36 4 _ _ w.heap.size 0 1 1 zr zr zr ze zr (by omega) Tryz.underlying293 (by kernel_rfl) (by decide) ?_
 (simp only [Mem.zp,Mem.pb,Mem.pc])
 refine plan_cell 36 _ _ _ _ zr zr zr ze (fun w' hw'=>((A1.out.below hw' A1.out.lt).cell _).trans C1.out) Tryz.underlying36 zr ?_
 (simp only [Mem.zp,Mem.pb,Mem.pc])
 refine plan_index_arr 293 36 4 _ _ w.heap.size 0 1 2 zr zr zr ze zr (by omega) Tryz.underlying293 (by kernel_rfl) (by decide) ?_
 (simp only [Mem.zp,Mem.pb,Mem.pc])
 refine plan_cell 36 _ _ _ _ zr zr zr ze (fun w' hw'=>((A1.out.below hw' A1.out.lt).cell _).trans C2.out) Tryz.underlying36 zr ?_
 (simp only [Mem.zp,Mem.pb,Mem.pc])
 refine plan_index_arr 293 36 4 _ _ w.heap.size 0 1 3 zr zr zr ze zr (by omega) Tryz.underlying293 (by kernel_rfl) (by decide) ?_
 (simp only [Mem.zp,Mem.pb,Mem.pc])
 refine plan_cell 36 _ _ _ _ zr zr zr ze (fun w' hw'=>((A1.out.below hw' A1.out.lt).cell _).trans C3.out) Tryz.underlying36 zr ?_
 (simp only [Mem.zp,Mem.pb,Mem.pc])
 iterate 4 ((first | refine Mem.pm1 ?_ | refine Mem.pm2 ?_ | refine Mem.pt ?_ | refine Mem.pf ?_);(simp only [Mem.zp,Mem.pb,Mem.pc]))
 refine plan_nil ?_
 have R2:Hid (At w1.drew (w.heap.size+1) X 293):=R1.out
 have B2:Hid (Below w.heap.size w w1.drew):=B1.out.drew
 clear R1 B1 A1 hx
 generalize w1.drew=W at *
 go_wp2_with fail
 obtain ⟨a1,ha1⟩:∃ x:BitVec 32,x=q.a+q.b:=⟨_,rfl⟩
 rw [r_add q.a q.b,←ha1]
 have Ha1:=zh ha1
 clear ha1
 rw [r_xor]
 refine (rot_any (q.d ^^^ a1) 16 _ (by decide)).mono ?_
 rintro e w' ⟨rfl,rfl⟩
 obtain ⟨d1,hd1⟩:∃ x:BitVec 32,x=(q.d ^^^ a1).rotateLeft 16:=⟨_,rfl⟩
 rw [←hd1]
 have Hd1:=zh hd1
 clear hd1
 go_wp2_with fail
 obtain ⟨k1,hk1⟩:∃ x:BitVec 32,x=q.c+d1:=⟨_,rfl⟩
 rw [r_add q.c d1,←hk1]
 have Hk1:=zh hk1
 clear hk1
 rw [r_xor]
 refine (rot_any (q.b ^^^ k1) 12 _ (by decide)).mono ?_
 rintro e w' ⟨rfl,rfl⟩
 obtain ⟨b1,hb1⟩:∃ x:BitVec 32,x=(q.b ^^^ k1).rotateLeft 12:=⟨_,rfl⟩
 rw [←hb1]
 have Hb1:=zh hb1
 clear hb1
 go_wp2_with fail
 obtain ⟨a2,ha2⟩:∃ x:BitVec 32,x=a1+b1:=⟨_,rfl⟩
 rw [r_add a1 b1,←ha2]
 have Ha2:=zh ha2
 clear ha2
 rw [r_xor]
 refine (rot_any (d1 ^^^ a2) 8 _ (by decide)).mono ?_
 rintro e w' ⟨rfl,rfl⟩
 obtain ⟨d2,hd2⟩:∃ x:BitVec 32,x=(d1 ^^^ a2).rotateLeft 8:=⟨_,rfl⟩
 rw [←hd2]
 have Hd2:=zh hd2
 clear hd2
 go_wp2_with fail
 obtain ⟨k2,hk2⟩:∃ x:BitVec 32,x=k1+d2:=⟨_,rfl⟩
 rw [r_add k1 d2,←hk2]
 have Hk2:=zh hk2
 clear hk2
 rw [r_xor]
 refine (rot_any (b1 ^^^ k2) 7 _ (by decide)).mono ?_
 rintro e w' ⟨rfl,rfl⟩
 obtain ⟨b2,hb2⟩:∃ x:BitVec 32,x=(b1 ^^^ k2).rotateLeft 7:=⟨_,rfl⟩
 rw [←hb2]
 have Hb2:=zh hb2
 clear hb2
 have hres:qOf (qr q)=(#[.int .u32 (V a2),.int .u32 (V b2),.int .u32 (V k2),.int .u32 (V d2)]:Array Value):=by rw [Hb2.out,Hk2.out,Hd2.out,Ha2.out,Hb1.out,Hk1.out,Hd1.out,Ha1.out];rfl
 have HRES:=zh hres
 clear hres
 go_wp2_with (first | (refine wpList_store_all zr 293 _ _ zr zr (w.heap.size+1) (#[.int .u32 (V a2),.int .u32 (V b2),.int .u32 (V k2),.int .u32 (V d2)]:Array Value) zr zr (by exact infoQ) _ _ R2.out (by exact XS.out.symm) (u32s_one [a2,b2,k2,d2]) ?_))
 try simp only [Exit.inBlock,Exit.then]
 refine ret_row zr (w.heap.size+1) 293 (#[.int .u32 (V a2),.int .u32 (V b2),.int .u32 (V k2),.int .u32 (V d2)]:Array Value) _ zr (R2.out.row _) Tryz.underlying293 zr (by exact infoQ) ?_
 exact ⟨by rw [HRES.out],below_row B2.out (by omega) _⟩
theorem o_or (t t2:TypeId) (x y:Operand) (a b:BitVec 32) (w:World):(do eqGuard .or t x y (.int .u32 (V a)) (.int .u32 (V b));binOp .or t2 (.int .u32 (V a)) (.int .u32 (V b)):Sem Value).run Tryz.prog w=.ok (.int .u32 (V (a ||| b))) w:=by
 rw [←r_or]
 go_simp
theorem shl_val (a:BitVec 32) (k:Nat):V a*2 ^ k % 4294967296=V (a <<< k):=by
 unfold V
 rw [BitVec.toNat_shiftLeft,Nat.shiftLeft_eq]
 show _=((a.toNat*2 ^ k % 4294967296:Nat):Int)
 rw [Int.natCast_emod,Int.natCast_mul,Int.natCast_pow];rfl
theorem o_shl (t t2:TypeId) (x y:Operand) (a:BitVec 32) (k:Nat) (K:Int) (hK:K=(k:Int)) (hk:k < 32) (w:World):(do eqGuard .shl t x y (.int .u32 (V a)) (.int .u64 K);binOp .shl t2 (.int .u32 (V a)) (.int .u64 K):Sem Value).run Tryz.prog w=.ok (.int .u32 (V (a <<< k))) w:=by
 subst hK
 have h0:=V_lo a
 rw [←shl_val]
 go_simp
 simp [IntKind.wrap,IntKind.bits,IntKind.signed]
theorem conv_w (x:BitVec 8) (w:World):(convert 5 36 (.int .u8 (B8 x))).run Tryz.prog w=.ok (.int .u32 (V (x.setWidth 32))) w:=by
 rw [conv_b]
 have e:B8 x=V (x.setWidth 32):=by
  unfold B8 V
  rw [BitVec.toNat_setWidth,Nat.mod_eq_of_lt (by have:=x.isLt;omega)]
 rw [e]
theorem lew_or (x0 x1 x2 x3:BitVec 8):(x0.setWidth 32 ||| x1.setWidth 32 <<< 8 ||| x2.setWidth 32 <<< 16 ||| x3.setWidth 32 <<< 24:BitVec 32)=x3.setWidth 32 <<< 24 ||| x2.setWidth 32 <<< 16 ||| x1.setWidth 32 <<< 8 ||| x0.setWidth 32:=by
 generalize x3.setWidth 32 <<< 24=d;generalize x2.setWidth 32 <<< 16=c;generalize x1.setWidth 32 <<< 8=b;generalize x0.setWidth 32=a
 rw [BitVec.or_comm _ d,BitVec.or_comm _ c,BitVec.or_comm a b,←BitVec.or_assoc,←BitVec.or_assoc]
theorem word_any (v:Value) (l:Lb8) (w:World) (h:Sl w v l) (hl:4≤l.length):Calls Tryz.prog 205 #[v] w fun e w'=>e=.returned (.int .u32 (V (lew l 0)))∧Below w.heap.size w w':=by
 obtain ⟨a,cap,rfl,hcap,hr⟩:=h
 obtain ⟨bb,oo,rfl,hbb,hc⟩:=hr (by intro e;rw [e] at hl;simp at hl)
 obtain ⟨n,hn⟩:∃ n,n=l.length:=⟨_,rfl⟩
 obtain ⟨x0,h0⟩:∃ x,x=l.getD 0 0:=⟨_,rfl⟩
 obtain ⟨x1,h1⟩:∃ x,x=l.getD 1 0:=⟨_,rfl⟩
 obtain ⟨x2,h2⟩:∃ x,x=l.getD 2 0:=⟨_,rfl⟩
 obtain ⟨x3,h3⟩:∃ x,x=l.getD 3 0:=⟨_,rfl⟩
 have hv:(x0.setWidth 32 ||| x1.setWidth 32 <<< 8 ||| x2.setWidth 32 <<< 16 ||| x3.setWidth 32 <<< 24:BitVec 32)=lew l 0:=by rw [h0,h1,h2,h3];exact lew_or _ _ _ _
 have c0:w.cell? ⟨bb,oo+0,none⟩=some (.int .u8 (B8 x0)):=by rw [h0];exact hc 0 (by omega)
 have c1:w.cell? ⟨bb,oo+1,none⟩=some (.int .u8 (B8 x1)):=by rw [h1];exact hc 1 (by omega)
 have c2:w.cell? ⟨bb,oo+2,none⟩=some (.int .u8 (B8 x2)):=by rw [h2];exact hc 2 (by omega)
 have c3:w.cell? ⟨bb,oo+3,none⟩=some (.int .u8 (B8 x3)):=by rw [h3];exact hc 3 (by omega)
 have k0 (w':World) (hw:Below w.heap.size w w') (k:Nat):w'.cell? ⟨bb,oo+k,none⟩=w.cell? ⟨bb,oo+k,none⟩:=hw.cell (p:=⟨bb,oo+k,none⟩) hbb
 rw [←hn] at hl ⊢
 have HV:=zh hv;have C0:=zh c0;have C1:=zh c1;have C2:=zh c2;have C3:=zh c3;have K0:=zh k0
 clear hv c0 c1 c2 c3 k0 hc hr h0 h1 h2 h3 hn hcap
 go_enter Tryz.func205,Tryz.ntmps205
 go_wp2_with fail
 refine wp_region_plan_in (fun w'=>Below w.heap.size w w') (.take 0 (.take 1 (.take 2 (.take 3 (.take 4 (.take 5 (.take 6 (.take 7 (.take 8 (.take 9 (.take 10 (.take 11 (.take 12 (.take 13 (.take 14 (.take 15 (.take 16 (.take 17 (.take 18 (.take 19 (.take 20 (.take 21 (.take 22 .done))))))))))))))))))))))) (by kernel_rfl) (by kernel_rfl) (by kernel_rfl) (Below.refl _ _).drew ?_
 (first | refine Mem.pm1 ?_ | refine Mem.pm2 ?_ | refine Mem.pt ?_ | refine Mem.pf ?_)
 (simp only [Mem.zp,Mem.pb,Mem.pc])
 refine plan_index 31 5 _ _ bb oo n cap 0 zr zr zr ze zr (by omega) Tryz.underlying31 (by kernel_rfl) ?_
 (simp only [Mem.zp,Mem.pb,Mem.pc])
 refine plan_cell 5 _ _ _ _ zr zr zr ze (fun w' hw'=>(K0.out w' hw' 0).trans C0.out) Tryz.underlying5 zr ?_
 (simp only [Mem.zp,Mem.pb,Mem.pc])
 refine plan_conv _ _ _ _ _ zr zr zr ze (fun wx=>conv_w x0 wx) ?_
 (simp only [Mem.zp,Mem.pb,Mem.pc])
 (first | refine Mem.pm1 ?_ | refine Mem.pm2 ?_ | refine Mem.pt ?_ | refine Mem.pf ?_)
 (simp only [Mem.zp,Mem.pb,Mem.pc])
 refine plan_index 31 5 _ _ bb oo n cap 1 zr zr zr ze zr (by omega) Tryz.underlying31 (by kernel_rfl) ?_
 (simp only [Mem.zp,Mem.pb,Mem.pc])
 refine plan_cell 5 _ _ _ _ zr zr zr ze (fun w' hw'=>(K0.out w' hw' 1).trans C1.out) Tryz.underlying5 zr ?_
 (simp only [Mem.zp,Mem.pb,Mem.pc])
 refine plan_conv _ _ _ _ _ zr zr zr ze (fun wx=>conv_w x1 wx) ?_
 (simp only [Mem.zp,Mem.pb,Mem.pc])
 refine plan_bin _ _ _ _ _ _ _ _ zr zr zr ze ze (fun wx=>o_shl _ _ _ _ _ 8 8 zr (by decide) wx) ?_
 (simp only [Mem.zp,Mem.pb,Mem.pc])
 refine plan_bin _ _ _ _ _ _ _ _ zr zr zr ze ze (fun wx=>o_or _ _ _ _ _ _ wx) ?_
 (simp only [Mem.zp,Mem.pb,Mem.pc])
 (first | refine Mem.pm1 ?_ | refine Mem.pm2 ?_ | refine Mem.pt ?_ | refine Mem.pf ?_)
 (simp only [Mem.zp,Mem.pb,Mem.pc])
 refine plan_index 31 5 _ _ bb oo n cap 2 zr zr zr ze zr (by omega) Tryz.underlying31 (by kernel_rfl) ?_
 (simp only [Mem.zp,Mem.pb,Mem.pc])
 refine plan_cell 5 _ _ _ _ zr zr zr ze (fun w' hw'=>(K0.out w' hw' 2).trans C2.out) Tryz.underlying5 zr ?_
 (simp only [Mem.zp,Mem.pb,Mem.pc])
 refine plan_conv _ _ _ _ _ zr zr zr ze (fun wx=>conv_w x2 wx) ?_
 (simp only [Mem.zp,Mem.pb,Mem.pc])
 refine plan_bin _ _ _ _ _ _ _ _ zr zr zr ze ze (fun wx=>o_shl _ _ _ _ _ 16 16 zr (by decide) wx) ?_
 (simp only [Mem.zp,Mem.pb,Mem.pc])
 refine plan_bin _ _ _ _ _ _ _ _ zr zr zr ze ze (fun wx=>o_or _ _ _ _ _ _ wx) ?_
 (simp only [Mem.zp,Mem.pb,Mem.pc])
 (first | refine Mem.pm1 ?_ | refine Mem.pm2 ?_ | refine Mem.pt ?_ | refine Mem.pf ?_)
 (simp only [Mem.zp,Mem.pb,Mem.pc])
 refine plan_index 31 5 _ _ bb oo n cap 3 zr zr zr ze zr (by omega) Tryz.underlying31 (by kernel_rfl) ?_
 (simp only [Mem.zp,Mem.pb,Mem.pc])
 refine plan_cell 5 _ _ _ _ zr zr zr ze (fun w' hw'=>(K0.out w' hw' 3).trans C3.out) Tryz.underlying5 zr ?_
 (simp only [Mem.zp,Mem.pb,Mem.pc])
 refine plan_conv _ _ _ _ _ zr zr zr ze (fun wx=>conv_w x3 wx) ?_
 (simp only [Mem.zp,Mem.pb,Mem.pc])
 refine plan_bin _ _ _ _ _ _ _ _ zr zr zr ze ze (fun wx=>o_shl _ _ _ _ _ 24 24 zr (by decide) wx) ?_
 (simp only [Mem.zp,Mem.pb,Mem.pc])
 refine plan_bin _ _ _ _ _ _ _ _ zr zr zr ze ze (fun wx=>o_or _ _ _ _ _ _ wx) ?_
 (simp only [Mem.zp,Mem.pb,Mem.pc])
 (first | refine Mem.pm1 ?_ | refine Mem.pm2 ?_ | refine Mem.pt ?_ | refine Mem.pf ?_)
 (simp only [Mem.zp,Mem.pb,Mem.pc])
 refine plan_nil ?_
 go_wp2_with fail
 go_ret
 exact ⟨by rw [←HV.out];rfl,(Below.refl _ _).drew⟩
def ints (l:List Nat):List Value:=l.map fun (k:Nat)=>.int .i64 (k:Int)
theorem same_any (l m:Lb8) (vl vm:Value) (w:World) (hl:Sl w vl l) (hm:Sl w vm m) (_bl:l.length≤9223372036854775807) (bm:m.length≤9223372036854775807) :
 Calls Tryz.prog 35 #[vl,vm] w fun e w'=>e=.returned (.bool (sameB l m))∧Below w.heap.size w w':=by
 have hl0:=hl
 have hm0:=hm
 obtain ⟨a1,c1,rfl,hc1,_⟩:=hl
 obtain ⟨a2,c2,rfl,hc2,_⟩:=hm
 obtain ⟨n,hn⟩:∃ n,n=l.length:=⟨_,rfl⟩
 obtain ⟨k,hk⟩:∃ k,k=m.length:=⟨_,rfl⟩
 have HL:=zh hl0;have HM:=zh hm0
 clear hl0 hm0
 by_cases hne:n≠k
 ·have hs:=sameB_len l m (by omega)
  rw [hs]
  rw [←hn,←hk]
  have hne':¬ (n:Int)=(k:Int):=by omega
  rw [←hn] at _bl;rw [←hk] at bm
  clear hs hn hk hc1 hc2 hne HL HM
  go_enter Tryz.func35,Tryz.ntmps35
  go_wp2
  go_ret
  exact ⟨rfl,Below.refl _ _⟩
 ·have hnk:n=k:=by omega
  subst hnk
  rw [←hn] at hc1 _bl
  rw [←hk] at hc2 bm
  have heq:(n:Int)=(n:Int):=rfl
  have HN:=zh hn;have HK:=zh hk
  rw [←hn,←hk]
  clear hn hk hne heq
  go_enter Tryz.func35,Tryz.ntmps35
  go_wp2
  go_loopw [5] (fun i wr=>∃ j:Nat,j≤n∧i=.int .i64 j∧l.take j=m.take j∧∃ q,wr=w.drewN q) (fun i _=>n - (intOf i).toNat)
  case atStart=>exact ⟨0,Nat.zero_le _,rfl,rfl,0,rfl⟩
  case round=>
   obtain ⟨j,hj,rfl,htk,q,rfl⟩:=hrel
   have HT:=zh htk;clear htk
   by_cases hlt:j < n
   ·obtain ⟨b1,o1,rfl,cl⟩:=sl_at (i:=j) HL.out (by rw [←HN.out];exact hlt)
    obtain ⟨b2,o2,rfl,cm⟩:=sl_at (i:=j) HM.out (by rw [←HK.out];exact hlt)
    have z0:(0:Int)≤(j:Int):=by omega
    have zn:(j:Int) < (n:Int):=by omega
    by_cases hxy:l.getD j 0=m.getD j 0
    ·have htn:=take_next l m j (by rw [←HN.out];exact hlt) (by rw [←HK.out];exact hlt) HT.out hxy
     rw [←hxy] at cm
     obtain ⟨x,hx⟩:∃ x,x=l.getD j 0:=⟨_,rfl⟩
     rw [←hx] at cl cm
     have HTN:=zh htn
     clear hxy hx htn
     go_wp2
     go_quiet (fail)
     go_wp2
     go_roundw
     case rel=>exact ⟨j+1,by omega,by go_num,HTN.out,_,rfl⟩
     case measure=>simp [intOf];omega
    ·have hs:=sameB_at l m j hxy
     obtain ⟨x,hx⟩:∃ x,x=l.getD j 0:=⟨_,rfl⟩
     obtain ⟨y,hy⟩:∃ y,y=m.getD j 0:=⟨_,rfl⟩
     rw [←hx] at cl hxy
     rw [←hy] at cm hxy
     have hbn:(B8 x != B8 y)=true:=by
      rw [bne_iff_ne];exact fun e=>hxy (B8_inj e)
     have hbe:¬ B8 x=B8 y:=fun e=>hxy (B8_inj e)
     have HS:=zh hs
     clear hs hx hy hxy
     go_wp2
     go_quiet (fail)
     go_wp2
     go_ret
     exact ⟨by rw [HS.out];rfl,⟨rfl,rfl,rfl,Nat.le_refl _,fun _ _=>rfl⟩⟩
   ·have hjn:j=n:=by omega
    have hge:¬ (j:Int) < (n:Int):=by omega
    have hs:Hid (sameB l m=true):=by
     have h:=HT.out
     rw [hjn,HN.out,List.take_length] at h
     have h2:l.length=m.length:=by rw [←HN.out,←HK.out]
     rw [h2,List.take_length] at h
     show sameB l m=true
     rw [h];exact sameB_self m
    clear hjn hlt
    go_wp2
    go_ret
    exact ⟨by rw [hs.out];rfl,⟨rfl,rfl,rfl,Nat.le_refl _,fun _ _=>rfl⟩⟩
end Sha
end Go.Proofs.YtlhnegbjoncieaaGreatDoor
