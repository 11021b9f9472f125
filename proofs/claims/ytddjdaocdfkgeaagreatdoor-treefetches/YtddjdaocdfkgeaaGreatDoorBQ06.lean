/- My own texts, merged. -/
import Derived.Test.YtddjdaocdfkgeaaGreatDoorBQ01
import Derived.Test.YtddjdaocdfkgeaaGreatDoorBQ00
import Derived.Laws.Tables
import Derived.OwnWalk
import Derived.Deep.DeepCutAuto
set_option maxRecDepth 100000
set_option maxHeartbeats 1000000
namespace Go.Proofs.YtddjdaocdfkgeaaGreatDoor
namespace Sha
open Go.RowKit Mem
theorem zeroRfR (w:World):(zeroValue 57).run Tryz.prog w=.ok (.agg (refC zref)) w:=by kernel_rfl
theorem zeroRfP (w:World):(zeroValue 32).run Tryz.prog w=.ok (.agg (refC zref)) w:=by kernel_rfl
theorem buildRf0 (w:World):(Instr.build 57 #[]).run Tryz.prog w=.ok (.agg (refC zref)) w:=run_build w _ _ _ (by kernel_rfl)
theorem buildRf1 (p:Int) (w:World):(Instr.build 57 #[(0,.int .i64 p)]).run Tryz.prog w=.ok (.agg (refC ⟨p,0,List.replicate 32 0⟩)) w:=run_build w _ _ _ (by kernel_rfl)
theorem infoRfR:(Tryz.prog.info? 57).map (·.size)=some 34:=by kernel_rfl
theorem infoRfP:(Tryz.prog.info? 32).map (·.size)=some 34:=by kernel_rfl
theorem parts_ref {a b:RefV} (ha:a.Wf) (hb:b.Wf) (d:Nat) (w:World):(eqParts (d+2) (refC a) (refC b) [(true,3,0),(true,30,1),(true,26,2)]).run Tryz.prog w=.ok (sameRef a b) w:=by
 have e:sameRef a b=((a.pl == b.pl) && ((V a.ep == V b.ep) && ((a.dg == b.dg) && true))):=by simp [sameRef]
 rw [e]
 refine eqParts_cons (run_part_int w 3 .i64 Tryz.underlying3 (refC a) 0 _ (ref0 a)) (run_part_int w 3 .i64 Tryz.underlying3 (refC b) 0 _ (ref0 b)) (run_equalIn_int w (d+1) 3 .i64 .i64 _ _ Tryz.underlying3) ?_
 refine eqParts_cons (run_part_int w 30 .u32 Tryz.underlying30 (refC a) 1 _ (ref1 a)) (run_part_int w 30 .u32 Tryz.underlying30 (refC b) 1 _ (ref1 b)) (run_equalIn_int w (d+1) 30 .u32 .u32 _ _ Tryz.underlying30) ?_
 exact eqParts_cons (run_part_arr w _ _ 32 32 Tryz.underlying26 infoDg _ 2 _ (ref_dgRow ha)) (run_part_arr w _ _ 32 32 Tryz.underlying26 infoDg _ 2 _ (ref_dgRow hb)) (eq32 d _ _ ha.dg hb.dg w) rfl
theorem eqlRf (t : TypeId) (hf : (Tryz.prog.fieldsOf t).toList.map (fun f => (decide (f.name ≠ "_"), f.type, f.offset)) = [(true, 3, 0), (true, 30, 1), (true, 26, 2)])
 (hu:Tryz.prog.underlying t=some (.struct (Tryz.prog.fieldsOf t))) (hp:Tryz.prog.stoodInHeld t=false) (hg:Tryz.prog.eqGuardType Tryz.prog.depth t=false) {a b:RefV} (ha:a.Wf) (hb:b.Wf) (x y:Operand) (w:World) :
 (do eqGuard .eql t x y (.agg (refC a)) (.agg (refC b));binOp .eql t (.agg (refC a)) (.agg (refC b)):Sem Value).run Tryz.prog w=.ok (.bool (sameRef a b)) w ∧
 (do eqGuard .neq t x y (.agg (refC a)) (.agg (refC b));binOp .neq t (.agg (refC a)) (.agg (refC b)):Sem Value).run Tryz.prog w=.ok (.bool (!sameRef a b)) w:=by
 have h:=run_equalIn_agg w 9999 t (refC a) (refC b) hu hp
 rw [eqFields_parts,hf,parts_ref ha hb 9997 w] at h
 constructor
 ·rw [Sem.run_bind,run_eqGuard_agg w .eql t x y _ _ hg,Result.andThen_ok,run_eql_struct,h];rfl
 ·rw [Sem.run_bind,run_eqGuard_agg w .neq t x y _ _ hg,Result.andThen_ok,run_neq_struct,h];rfl
theorem eqlRP {a b:RefV} (ha:a.Wf) (hb:b.Wf) (x y:Operand) (w:World):(do eqGuard .eql 32 x y (.agg (refC a)) (.agg (refC b));binOp .eql 32 (.agg (refC a)) (.agg (refC b)):Sem Value).run Tryz.prog w=.ok (.bool (sameRef a b)) w:=
 (eqlRf _ (by kernel_rfl) (by kernel_rfl) (by kernel_rfl) (by kernel_rfl) ha hb x y w).1
theorem infoU9:(Tryz.prog.info? 30).map (·.size)=some 1:=by kernel_rfl
theorem wb_pow9 (x:BitVec 32) (k:Nat):V x / 2 ^ k % 256=((wb x k).toNat:Int):=wb_val x k _ (by simp)
def SealEnd (w:World) (l:Lb8) (n:Int) (e:Ending) (w':World):Prop:=∃ v,e=.returned (.tuple #[v,.int .i64 n])∧Sl w' v l∧Below w.heap.size w w'
def SealOwn (w:World) (l:Lb8) (n:Int) (e:Ending) (w':World):Prop:=∃ v,e=.returned (.tuple #[v,.int .i64 n])∧OwnB w' w.heap.size v l∧Below w.heap.size w w'
theorem SealOwn.seal {w w':World} {l:Lb8} {n:Int} {e:Ending} (h:SealOwn w l n e w'):SealEnd w l n e w':=let ⟨v,e,hs,hb⟩:=h;⟨v,e,OwnB.sl hs,hb⟩
theorem sl_inv {w:World} {v:Value} {l:Lb8} (h:Sl w v l):∃ a c,v=.slice a l.length c:=let ⟨a,c,e,_⟩:=h;⟨a,c,e⟩
theorem ret_tmp_row_tmp {P:Program} {fn:Func} {R:Ending→World→Prop} {tmps:Array Value} {w:World} {q p u:Tmp} {ty:TypeId} (h:fn.results=#[.tmp q,.cell p ty,.tmp u]) (g:Nat) (t:TypeId) (cs:Array Value) (d:TypeDesc) (v1 v:Value)
 (hq:tmps.getD q undef=v1) (hp:tmps.getD p undef=.pointer (some ⟨g,0,none⟩)) (hv:tmps.getD u undef=v) (hg:At w g cs t) (hu:P.underlying ty=some d) (hd:d.isRow=true) (hi:(P.info? ty).map (·.size)=some cs.size)
 (hR:R (.returned (.tuple #[v1,.agg cs,v])) w):bodyPost P fn R .ret ⟨tmps,[]⟩ w:=by
 refine bodyPost_ret (v:=.tuple #[v1,.agg cs,v]) ?_ rfl hR
 have hrow:=run_loadVar_row (P:=P) w g t ty cs (0,0) d hg hu (by cases d <;> first | rfl | exact hd) hi
 rw [Array.getD_eq_getD_getElem?] at hq hp hv
 simp only [results,h]
 simp [Result.andThen,hq,hp,hv,asAddr,hrow]
def ThreeEnd (w:World) (l:Lb8) (r:RefV) (n:Int) (e:Ending) (w':World):Prop:=∃ v,e=.returned (.tuple #[v,.agg (refC r),.int .i64 n])∧Sl w' v l∧Below w.heap.size w w'
def ThreeOwn (w:World) (l:Lb8) (r:RefV) (n:Int) (e:Ending) (w':World):Prop:=∃ v,e=.returned (.tuple #[v,.agg (refC r),.int .i64 n])∧OwnB w' w.heap.size v l∧Below w.heap.size w w'
theorem ThreeOwn.three {w w':World} {l:Lb8} {r:RefV} {n:Int} {e:Ending} (h:ThreeOwn w l r n e w'):ThreeEnd w l r n e w':=let ⟨v,e,hs,hb⟩:=h;⟨v,e,OwnB.sl hs,hb⟩
theorem buildPf0 (w:World):(Instr.build 32 #[]).run Tryz.prog w=.ok (.agg (refC zref)) w:=run_build w _ _ _ (by kernel_rfl)
def qOf (q:Q4):Array Value:=(u32s q.list).toArray
theorem qOf_one (q:Q4):(qOf q).all (·.oneCell')=true:=u32s_one _
theorem build_q (a b c d:BitVec 32) (w:World):(Instr.build 183 #[(0,.int .u32 (V a)),(1,.int .u32 (V b)),(2,.int .u32 (V c)),(3,.int .u32 (V d))]).run Tryz.prog w=.ok (.agg #[.int .u32 (V a),.int .u32 (V b),.int .u32 (V c),.int .u32 (V d)]) w:=by kernel_rfl
def Z4:Array Value:=(u32s [0,0,0,0]).toArray
theorem zero4 (w:World):(zeroValue 183).run Tryz.prog w=.ok (.agg Z4) w:=by kernel_rfl
theorem infoQ:(Tryz.prog.info? 183).map (·.size)=some 4:=by kernel_rfl
theorem infoU32:(Tryz.prog.info? 30).map (·.size)=some 1:=by kernel_rfl
theorem rquarter_any (q:Q4) (w:World):Calls Tryz.prog 120 #[.agg (qOf q)] w fun e w'=>e=.returned (.agg (qOf (qr q)))∧Below w.heap.size w w':=by
 obtain ⟨X,hX⟩:∃ X,X=Z4:=⟨_,rfl⟩
 have hx:=zero4
 rw [←hX] at hx
 have hXs:X.size=4:=by rw [hX];rfl
 obtain ⟨C,hC⟩:∃ C,C=qOf q:=⟨_,rfl⟩
 have c0:C[0]?=some (.int .u32 (V q.a)):=by rw [hC];rfl
 have c1:C[1]?=some (.int .u32 (V q.b)):=by rw [hC];rfl
 have c2:C[2]?=some (.int .u32 (V q.c)):=by rw [hC];rfl
 have c3:C[3]?=some (.int .u32 (V q.d)):=by rw [hC];rfl
 rw [←hC]
 have a1:At ((w.alloc (.cells C 183)).alloc (.cells X 183)) w.heap.size C 183:=(at_new w C _).alloc _
 have r1:At ((w.alloc (.cells C 183)).alloc (.cells X 183)) (w.heap.size+1) X 183:=by
  have h:=at_new (w.alloc (.cells C 183)) X 183
  simpa using h
 have b1:Below w.heap.size w ((w.alloc (.cells C 183)).alloc (.cells X 183)):=((Below.refl _ _).alloc (Nat.le_refl _) _).alloc (by simp) _
 have XS:=zh hXs;have C0:=zh c0;have C1:=zh c1;have C2:=zh c2;have C3:=zh c3;have A1:=zh a1;have R1:=zh r1;have B1:=zh b1
 clear hXs c0 c1 c2 c3 a1 r1 b1 hX hC
 go_enter Tryz.func120,Tryz.ntmps120
 go_wp2_with fail
 generalize (w.alloc (.cells C 183)).alloc (.cells X 183)=w1 at *
 refine wp_region_plan_in (fun w'=>Below w1.heap.size w1 w') (.take 0 (.take 1 (.take 2 (.take 3 (.take 4 (.take 5 (.take 6 (.take 7 (.take 8 (.take 9 (.take 10 (.take 11 .done)))))))))))) (by kernel_rfl) (by kernel_rfl) (by kernel_rfl) (Below.refl _ _).drew ?_
 refine plan_index_arr 183 30 4 _ _ w.heap.size 0 1 0 zr zr zr ze zr (by omega) Tryz.underlying183 (by kernel_rfl) (by decide) ?_
 (simp only [Mem.zp,Mem.pb,Mem.pc])
 refine plan_cell 30 _ _ _ _ zr zr zr ze (fun w' hw'=>((A1.out.below hw' A1.out.lt).cell _).trans C0.out) Tryz.underlying30 zr ?_
 (simp only [Mem.zp,Mem.pb,Mem.pc])
 refine plan_index_arr 183 30 4 _ _ w.heap.size 0 1 1 zr zr zr ze zr (by omega) Tryz.underlying183 (by kernel_rfl) (by decide) ?_
 (simp only [Mem.zp,Mem.pb,Mem.pc])
 refine plan_cell 30 _ _ _ _ zr zr zr ze (fun w' hw'=>((A1.out.below hw' A1.out.lt).cell _).trans C1.out) Tryz.underlying30 zr ?_
 (simp only [Mem.zp,Mem.pb,Mem.pc])
 refine plan_index_arr 183 30 4 _ _ w.heap.size 0 1 2 zr zr zr ze zr (by omega) Tryz.underlying183 (by kernel_rfl) (by decide) ?_
 (simp only [Mem.zp,Mem.pb,Mem.pc])
 refine plan_cell 30 _ _ _ _ zr zr zr ze (fun w' hw'=>((A1.out.below hw' A1.out.lt).cell _).trans C2.out) Tryz.underlying30 zr ?_
 (simp only [Mem.zp,Mem.pb,Mem.pc])
 refine plan_index_arr 183 30 4 _ _ w.heap.size 0 1 3 zr zr zr ze zr (by omega) Tryz.underlying183 (by kernel_rfl) (by decide) ?_
 (simp only [Mem.zp,Mem.pb,Mem.pc])
 refine plan_cell 30 _ _ _ _ zr zr zr ze (fun w' hw'=>((A1.out.below hw' A1.out.lt).cell _).trans C3.out) Tryz.underlying30 zr ?_
 (simp only [Mem.zp,Mem.pb,Mem.pc])
 iterate 4 ((first | refine Mem.pm1 ?_ | refine Mem.pm2 ?_ | refine Mem.pt ?_ | refine Mem.pf ?_);(simp only [Mem.zp,Mem.pb,Mem.pc]))
 refine plan_nil ?_
 have R2:Hid (At w1.drew (w.heap.size+1) X 183):=R1.out
 have B2:Hid (Below w.heap.size w w1.drew):=B1.out.drew
 clear R1 B1 A1 hx
 generalize w1.drew=W at *
 go_wp2_with fail
 obtain ⟨a1,ha1⟩:∃ x:BitVec 32,x=q.a+q.b:=⟨_,rfl⟩
 rw [r_add q.a q.b,←ha1]
 have Ha1:=zh ha1
 clear ha1
 rw [r_xor]
 refine (left_any (q.d ^^^ a1) 16 _ (by decide)).mono ?_
 rintro e w' ⟨rfl,rfl⟩
 obtain ⟨d1,hd1⟩:∃ x:BitVec 32,x=(q.d ^^^ a1).rotateLeft 16:=⟨_,rfl⟩
 rw [←hd1]
 have Hd1:=zh hd1
 clear hd1
 go_wp2_with fail
 obtain ⟨k1,hk1⟩:∃ x:BitVec 32,x=q.c+d1:=⟨_,rfl⟩
 rw [r_add q.c d1,←hk1]
 have Hk1:=zh hk1
 clear hk1
 rw [r_xor]
 refine (left_any (q.b ^^^ k1) 12 _ (by decide)).mono ?_
 rintro e w' ⟨rfl,rfl⟩
 obtain ⟨b1,hb1⟩:∃ x:BitVec 32,x=(q.b ^^^ k1).rotateLeft 12:=⟨_,rfl⟩
 rw [←hb1]
 have Hb1:=zh hb1
 clear hb1
 go_wp2_with fail
 obtain ⟨a2,ha2⟩:∃ x:BitVec 32,x=a1+b1:=⟨_,rfl⟩
 rw [r_add a1 b1,←ha2]
 have Ha2:=zh ha2
 clear ha2
 rw [r_xor]
 refine (left_any (d1 ^^^ a2) 8 _ (by decide)).mono ?_
 rintro e w' ⟨rfl,rfl⟩
 obtain ⟨d2,hd2⟩:∃ x:BitVec 32,x=(d1 ^^^ a2).rotateLeft 8:=⟨_,rfl⟩
 rw [←hd2]
 have Hd2:=zh hd2
 clear hd2
 go_wp2_with fail
 obtain ⟨k2,hk2⟩:∃ x:BitVec 32,x=k1+d2:=⟨_,rfl⟩
 rw [r_add k1 d2,←hk2]
 have Hk2:=zh hk2
 clear hk2
 rw [r_xor]
 refine (left_any (b1 ^^^ k2) 7 _ (by decide)).mono ?_
 rintro e w' ⟨rfl,rfl⟩
 obtain ⟨b2,hb2⟩:∃ x:BitVec 32,x=(b1 ^^^ k2).rotateLeft 7:=⟨_,rfl⟩
 rw [←hb2]
 have Hb2:=zh hb2
 clear hb2
 have hres:qOf (qr q)=(#[.int .u32 (V a2),.int .u32 (V b2),.int .u32 (V k2),.int .u32 (V d2)]:Array Value):=by rw [Hb2.out,Hk2.out,Hd2.out,Ha2.out,Hb1.out,Hk1.out,Hd1.out,Ha1.out];rfl
 have HRES:=zh hres
 clear hres
 go_wp2_with (first | (refine wpList_store_all zr 183 _ _ zr zr (w.heap.size+1) (#[.int .u32 (V a2),.int .u32 (V b2),.int .u32 (V k2),.int .u32 (V d2)]:Array Value) zr zr (by exact infoQ) _ _ R2.out (by exact XS.out.symm) (u32s_one [a2,b2,k2,d2]) ?_))
 try simp only [Exit.inBlock,Exit.then]
 refine ret_row zr (w.heap.size+1) 183 (#[.int .u32 (V a2),.int .u32 (V b2),.int .u32 (V k2),.int .u32 (V d2)]:Array Value) _ zr (R2.out.row _) Tryz.underlying183 zr (by exact infoQ) ?_
 exact ⟨by rw [HRES.out],below_row B2.out (by omega) _⟩
theorem or_sum (a b k:Nat) (hb:b < 2 ^ k):a*2 ^ k ||| b=a*2 ^ k+b:=by
 rw [Nat.mul_comm,Nat.two_pow_add_eq_or_of_lt hb]
theorem lew_nat (a b c d:BitVec 8):(d.setWidth 32 <<< 24 ||| c.setWidth 32 <<< 16 ||| b.setWidth 32 <<< 8 ||| a.setWidth 32:BitVec 32).toNat=a.toNat+256*b.toNat+65536*c.toNat+16777216*d.toNat:=by
 have ha:=a.isLt;have hb:=b.isLt;have hc:=c.isLt;have hd:=d.isLt
 have sh (x:BitVec 8) (k:Nat) (hk:k≤24):(x.setWidth 32 <<< k:BitVec 32).toNat=x.toNat*2 ^ k:=by
  have hx:=x.isLt
  have h2:x.toNat*2 ^ k < 2 ^ 32:=by
   calc x.toNat*2 ^ k < 2 ^ 8*2 ^ k:=Nat.mul_lt_mul_of_pos_right hx (Nat.two_pow_pos k)
    _=2 ^ (8+k):=(Nat.pow_add 2 8 k).symm
    _≤2 ^ 32:=Nat.pow_le_pow_right (by decide) (by omega)
  rw [BitVec.toNat_shiftLeft,BitVec.toNat_setWidth,Nat.shiftLeft_eq,Nat.mod_eq_of_lt (show x.toNat < 2 ^ 32 by omega),Nat.mod_eq_of_lt h2]
 have s0:(a.setWidth 32:BitVec 32).toNat=a.toNat:=by rw [BitVec.toNat_setWidth,Nat.mod_eq_of_lt (by omega)]
 rw [BitVec.toNat_or,BitVec.toNat_or,BitVec.toNat_or,sh d 24 (by decide),sh c 16 (by decide),sh b 8 (by decide),s0]
 rw [or_sum d.toNat (c.toNat*2 ^ 16) 24 (by omega)]
 rw [show d.toNat*2 ^ 24+c.toNat*2 ^ 16=(d.toNat*2 ^ 8+c.toNat)*2 ^ 16 by omega,or_sum _ (b.toNat*2 ^ 8) 16 (by omega)]
 rw [show (d.toNat*2 ^ 8+c.toNat)*2 ^ 16+b.toNat*2 ^ 8=(d.toNat*2 ^ 16+c.toNat*2 ^ 8+b.toNat)*2 ^ 8 by omega,or_sum _ a.toNat 8 (by omega)]
 omega
theorem lew_val (l:Lb8) (i:Nat):B8 (l.getD (4*i) 0)+256*B8 (l.getD (4*i+1) 0)+65536*B8 (l.getD (4*i+2) 0)+16777216*B8 (l.getD (4*i+3) 0)=V (lew l i):=by
 unfold V B8 lew
 rw [lew_nat]
 omega
theorem conv_b (x:BitVec 8) (w:World):(convert 5 30 (.int .u8 (B8 x))).run Tryz.prog w=.ok (.int .u32 (B8 x)) w:=by
 have h0:=B8_lo x;have h1:=B8_hi x
 have e:(convert 5 30 (.int .u8 (B8 x))).run Tryz.prog w=.ok (.int .u32 (IntKind.u32.wrap (B8 x))) w:=by kernel_rfl
 rw [e,u32_id _ h0 (by omega)]
theorem rword_any (v:Value) (l:Lb8) (w:World) (h:Sl w v l) (hl:l.length=4):Calls Tryz.prog 118 #[v] w fun e w'=>e=.returned (.int .u32 (V (lew l 0)))∧Below w.heap.size w w':=by
 obtain ⟨a,cap,rfl,hcap,hr⟩:=h
 rw [hl] at hcap hr ⊢
 obtain ⟨bb,oo,rfl,hbb,hc⟩:=hr (by intro e;rw [e] at hl;simp at hl)
 obtain ⟨x0,h0⟩:∃ x,x=l.getD 0 0:=⟨_,rfl⟩
 obtain ⟨x1,h1⟩:∃ x,x=l.getD 1 0:=⟨_,rfl⟩
 obtain ⟨x2,h2⟩:∃ x,x=l.getD 2 0:=⟨_,rfl⟩
 obtain ⟨x3,h3⟩:∃ x,x=l.getD 3 0:=⟨_,rfl⟩
 have hv:B8 x0+256*B8 x1+65536*B8 x2+16777216*B8 x3=V (lew l 0):=by rw [h0,h1,h2,h3];exact lew_val l 0
 have c0:w.cell? ⟨bb,oo+0,none⟩=some (.int .u8 (B8 x0)):=by rw [h0];exact hc 0 (by decide)
 have c1:w.cell? ⟨bb,oo+1,none⟩=some (.int .u8 (B8 x1)):=by rw [h1];exact hc 1 (by decide)
 have c2:w.cell? ⟨bb,oo+2,none⟩=some (.int .u8 (B8 x2)):=by rw [h2];exact hc 2 (by decide)
 have c3:w.cell? ⟨bb,oo+3,none⟩=some (.int .u8 (B8 x3)):=by rw [h3];exact hc 3 (by decide)
 have k0 (w':World) (hw:Below w.heap.size w w') (k:Nat):w'.cell? ⟨bb,oo+k,none⟩=w.cell? ⟨bb,oo+k,none⟩:=hw.cell (p:=⟨bb,oo+k,none⟩) hbb
 have l0:=B8_lo x0;have l1:=B8_lo x1;have l2:=B8_lo x2;have l3:=B8_lo x3;have u0:=B8_hi x0;have u1:=B8_hi x1;have u2:=B8_hi x2;have u3:=B8_hi x3
 have HV:=zh hv;have C0:=zh c0;have C1:=zh c1;have C2:=zh c2;have C3:=zh c3;have K0:=zh k0
 clear hv c0 c1 c2 c3 k0 hc hr h0 h1 h2 h3
 go_enter Tryz.func118,Tryz.ntmps118
 go_wp2_with fail
 refine wp_region_plan_in (fun w'=>Below w.heap.size w w') (.take 0 (.take 1 (.take 2 (.take 3 (.take 4 (.take 5 (.take 6 (.take 7 (.take 8 (.take 9 (.take 10 (.take 11 (.take 12 (.take 13 (.take 14 (.take 15 (.take 16 (.take 17 (.take 18 (.take 19 (.take 20 (.take 21 (.take 22 .done))))))))))))))))))))))) (by kernel_rfl) (by kernel_rfl) (by kernel_rfl) (Below.refl _ _).drew ?_
 (first | refine Mem.pm1 ?_ | refine Mem.pm2 ?_ | refine Mem.pt ?_ | refine Mem.pf ?_)
 (simp only [Mem.zp,Mem.pb,Mem.pc])
 refine plan_index 40 5 _ _ bb oo 4 cap 0 zr zr zr ze zr (by omega) Tryz.underlying40 (by kernel_rfl) ?_
 (simp only [Mem.zp,Mem.pb,Mem.pc])
 refine plan_cell 5 _ _ _ _ zr zr zr ze (fun w' hw'=>(K0.out w' hw' 0).trans C0.out) Tryz.underlying5 zr ?_
 (simp only [Mem.zp,Mem.pb,Mem.pc])
 refine plan_conv _ _ _ _ _ zr zr zr ze (fun wx=>conv_b x0 wx) ?_
 (simp only [Mem.zp,Mem.pb,Mem.pc])
 (first | refine Mem.pm1 ?_ | refine Mem.pm2 ?_ | refine Mem.pt ?_ | refine Mem.pf ?_)
 (simp only [Mem.zp,Mem.pb,Mem.pc])
 refine plan_index 40 5 _ _ bb oo 4 cap 1 zr zr zr ze zr (by omega) Tryz.underlying40 (by kernel_rfl) ?_
 (simp only [Mem.zp,Mem.pb,Mem.pc])
 refine plan_cell 5 _ _ _ _ zr zr zr ze (fun w' hw'=>(K0.out w' hw' 1).trans C1.out) Tryz.underlying5 zr ?_
 (simp only [Mem.zp,Mem.pb,Mem.pc])
 refine plan_conv _ _ _ _ _ zr zr zr ze (fun wx=>conv_b x1 wx) ?_
 (simp only [Mem.zp,Mem.pb,Mem.pc])
 refine plan_bin _ _ _ _ _ _ _ _ zr zr zr ze ze (fun wx=>o_umul _ _ _ _ (256) (B8 x1) (256*B8 x1) rfl (by omega) (by omega) wx) ?_
 (simp only [Mem.zp,Mem.pb,Mem.pc])
 refine plan_bin _ _ _ _ _ _ _ _ zr zr zr ze ze (fun wx=>o_uadd _ _ _ _ (B8 x0) (256*B8 x1) (B8 x0+256*B8 x1) rfl (by omega) (by omega) wx) ?_
 (simp only [Mem.zp,Mem.pb,Mem.pc])
 (first | refine Mem.pm1 ?_ | refine Mem.pm2 ?_ | refine Mem.pt ?_ | refine Mem.pf ?_)
 (simp only [Mem.zp,Mem.pb,Mem.pc])
 refine plan_index 40 5 _ _ bb oo 4 cap 2 zr zr zr ze zr (by omega) Tryz.underlying40 (by kernel_rfl) ?_
 (simp only [Mem.zp,Mem.pb,Mem.pc])
 refine plan_cell 5 _ _ _ _ zr zr zr ze (fun w' hw'=>(K0.out w' hw' 2).trans C2.out) Tryz.underlying5 zr ?_
 (simp only [Mem.zp,Mem.pb,Mem.pc])
 refine plan_conv _ _ _ _ _ zr zr zr ze (fun wx=>conv_b x2 wx) ?_
 (simp only [Mem.zp,Mem.pb,Mem.pc])
 refine plan_bin _ _ _ _ _ _ _ _ zr zr zr ze ze (fun wx=>o_umul _ _ _ _ (65536) (B8 x2) (65536*B8 x2) rfl (by omega) (by omega) wx) ?_
 (simp only [Mem.zp,Mem.pb,Mem.pc])
 refine plan_bin _ _ _ _ _ _ _ _ zr zr zr ze ze (fun wx=>o_uadd _ _ _ _ (B8 x0+256*B8 x1) (65536*B8 x2) (B8 x0+256*B8 x1+65536*B8 x2) rfl (by omega) (by omega) wx) ?_
 (simp only [Mem.zp,Mem.pb,Mem.pc])
 (first | refine Mem.pm1 ?_ | refine Mem.pm2 ?_ | refine Mem.pt ?_ | refine Mem.pf ?_)
 (simp only [Mem.zp,Mem.pb,Mem.pc])
 refine plan_index 40 5 _ _ bb oo 4 cap 3 zr zr zr ze zr (by omega) Tryz.underlying40 (by kernel_rfl) ?_
 (simp only [Mem.zp,Mem.pb,Mem.pc])
 refine plan_cell 5 _ _ _ _ zr zr zr ze (fun w' hw'=>(K0.out w' hw' 3).trans C3.out) Tryz.underlying5 zr ?_
 (simp only [Mem.zp,Mem.pb,Mem.pc])
 refine plan_conv _ _ _ _ _ zr zr zr ze (fun wx=>conv_b x3 wx) ?_
 (simp only [Mem.zp,Mem.pb,Mem.pc])
 refine plan_bin _ _ _ _ _ _ _ _ zr zr zr ze ze (fun wx=>o_umul _ _ _ _ (16777216) (B8 x3) (16777216*B8 x3) rfl (by omega) (by omega) wx) ?_
 (simp only [Mem.zp,Mem.pb,Mem.pc])
 refine plan_bin _ _ _ _ _ _ _ _ zr zr zr ze ze (fun wx=>o_uadd _ _ _ _ (B8 x0+256*B8 x1+65536*B8 x2) (16777216*B8 x3) (B8 x0+256*B8 x1+65536*B8 x2+16777216*B8 x3) rfl (by omega) (by omega) wx) ?_
 (simp only [Mem.zp,Mem.pb,Mem.pc])
 (first | refine Mem.pm1 ?_ | refine Mem.pm2 ?_ | refine Mem.pt ?_ | refine Mem.pf ?_)
 (simp only [Mem.zp,Mem.pb,Mem.pc])
 refine plan_nil ?_
 go_wp2_with fail
 go_ret
 exact ⟨by rw [←HV.out];rfl,(Below.refl _ _).drew⟩
end Sha
end Go.Proofs.YtddjdaocdfkgeaaGreatDoor
