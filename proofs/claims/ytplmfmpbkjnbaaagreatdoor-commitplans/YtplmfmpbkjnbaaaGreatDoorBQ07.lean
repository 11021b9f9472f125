/- My own texts, merged. -/
import Derived.Test.YtplmfmpbkjnbaaaGreatDoorBQ02
import Derived.Test.YtplmfmpbkjnbaaaGreatDoorBQ00
import Derived.Laws.Tables
import Derived.Test.YtplmfmpbkjnbaaaGreatDoorBQ04
set_option maxRecDepth 100000
set_option maxHeartbeats 1000000
namespace Go.Proofs.YtplmfmpbkjnbaaaGreatDoor
namespace Sha
open Go.RowKit Mem
theorem infoDg:(Tryz.prog.info? 22).map (·.size)=some 32:=by kernel_rfl
theorem sizeB1 (w:World):(sizeOf 5).run Tryz.prog w=.ok 1 w:=by kernel_rfl
set_option maxRecDepth 10000 in
theorem eq32 (d:Nat) (l m:Lb8) (hl:l.length=32) (hm:m.length=32) (w:World):(Op.equalIn (d+2) 22 (.agg (u8s l).toArray) (.agg (u8s m).toArray)).run Tryz.prog w=.ok (l == m) w:=by
 have e1:∀ k:Lb8,u8s k=(k.map fun x=>(x.toNat:Int)).map (Value.int .u8):=fun k=>by simp [u8s]
 have h:=run_equalIn_ints (P:=Tryz.prog) w d 22 5 .u8 32 Tryz.underlying22 Tryz.underlying5 sizeB1 (l.map fun x=>(x.toNat:Int)) (m.map fun x=>(x.toNat:Int)) (by simpa using hl) (by simpa using hm)
 rw [e1,e1,h]
 congr 1
 rw [Bool.eq_iff_iff,beq_iff_eq,beq_iff_eq]
 exact (List.map_inj_right (fun a b h=>by apply BitVec.eq_of_toNat_eq;omega)).trans Iff.rfl
structure RefV where
 pl:Int
 ep:BitVec 32
 dg:Lb8
structure RefV.Wf (r:RefV):Prop where
 p0:-9223372036854775808≤r.pl
 p1:r.pl≤9223372036854775807
 dg:r.dg.length=32
def refL (r:RefV):List Value:=[.int .i64 r.pl,.int .u32 (V r.ep)]++u8s r.dg
def refC (r:RefV):Array Value:=(refL r).toArray
theorem refC_size {r:RefV} (h:r.Wf):(refC r).size=34:=by simp [refC,refL,u8s_length,h.dg]
theorem refC_one (r:RefV):(refC r).all (·.oneCell')=true:=by
 rw [Array.all_eq_true]
 intro i hi
 have hm:(refC r)[i]∈refL r:=by
  have h:(refC r)[i]∈refC r:=Array.getElem_mem hi
  exact Array.mem_toList_iff.2 h
 generalize (refC r)[i]=u at hm
 simp only [refL,List.mem_append,List.mem_cons,List.not_mem_nil,or_false] at hm
 rcases hm with (rfl | rfl) | hm
 all_goals first | rfl | exact u8s_cells _ _ hm
theorem ref0 (r:RefV):(refC r)[0]?=some (.int .i64 r.pl):=by simp [refC,refL]
theorem ref1 (r:RefV):(refC r)[1]?=some (.int .u32 (V r.ep)):=by simp [refC,refL]
theorem ref_dg {r:RefV} (h:r.Wf) (i:Nat) (hi:i < 32):(refC r)[2+i]?=some (.int .u8 ((r.dg.getD i 0).toNat:Int)):=by
 have e:=u8s_get r.dg i (by rw [h.dg];exact hi)
 rw [←e]
 simp only [refC,refL,List.getElem?_toArray]
 rw [List.getElem?_append_right (by simp)]
 simp
theorem ref_dgRow {r:RefV} (h:r.Wf):(refC r).extract 2 (2+32)=(u8s r.dg).toArray:=by
 apply Array.ext'
 simp [refC,refL]
 exact List.take_of_length_le (by rw [u8s_length,h.dg];exact Nat.le_refl _)
def zref:RefV:=⟨0,0,List.replicate 32 0⟩
theorem zref_wf:zref.Wf:=⟨by decide,by decide,by decide⟩
theorem V_inj {x y:BitVec 32} (h:V x=V y):x=y:=by
 apply BitVec.eq_of_toNat_eq
 have:(x.toNat:Int)=(y.toNat:Int):=h
 omega
def sameRef (a b:RefV):Bool:=(a.pl == b.pl) && ((V a.ep == V b.ep) && (a.dg == b.dg))
theorem sameRef_iff (a b:RefV):sameRef a b=true ↔ a=b:=by
 obtain ⟨p,e,d⟩:=a
 obtain ⟨p',e',d'⟩:=b
 simp only [sameRef,Bool.and_eq_true,beq_iff_eq,RefV.mk.injEq]
 exact ⟨fun ⟨h1,h2,h3⟩=>⟨h1,V_inj h2,h3⟩,fun ⟨h1,h2,h3⟩=>⟨h1,by rw [h2],h3⟩⟩
theorem sameRef_self (a:RefV):sameRef a a=true:=(sameRef_iff a a).2 rfl
def layRf (r:RefV):Lb8:=[BitVec.ofInt 8 r.pl]++le4 r.ep++r.dg
theorem layRf_length {r:RefV} (h:r.Wf):(layRf r).length=37:=by simp [layRf,le4,h.dg]
theorem zeroRfR (w:World):(zeroValue 25).run Tryz.prog w=.ok (.agg (refC zref)) w:=by kernel_rfl
theorem zeroRfP (w:World):(zeroValue 46).run Tryz.prog w=.ok (.agg (refC zref)) w:=by kernel_rfl
theorem buildRf0 (w:World):(Instr.build 25 #[]).run Tryz.prog w=.ok (.agg (refC zref)) w:=run_build w _ _ _ (by kernel_rfl)
theorem buildRf3 (p:Int) (e:BitVec 32) (dg:Lb8) (h:dg.length=32) (w:World):(Instr.build 25 #[(0,.int .i64 p),(1,.int .u32 (V e)),(2,.agg (u8s dg).toArray)]).run Tryz.prog w=.ok (.agg (refC ⟨p,e,dg⟩)) w:=by
 match dg,h with
 | [a0,a1,a2,a3,a4,a5,a6,a7,a8,a9,a10,a11,a12,a13,a14,a15,a16,a17,a18,a19,a20,a21,a22,a23,a24,a25,a26,a27,a28,a29,a30,a31],_=>exact run_build w _ _ _ (by kernel_rfl)
theorem infoRfR:(Tryz.prog.info? 25).map (·.size)=some 34:=by kernel_rfl
theorem infoRfP:(Tryz.prog.info? 46).map (·.size)=some 34:=by kernel_rfl
theorem parts_ref {a b:RefV} (ha:a.Wf) (hb:b.Wf) (d:Nat) (w:World):(eqParts (d+2) (refC a) (refC b) [(true,3,0),(true,23,1),(true,22,2)]).run Tryz.prog w=.ok (sameRef a b) w:=by
 have e:sameRef a b=((a.pl == b.pl) && ((V a.ep == V b.ep) && ((a.dg == b.dg) && true))):=by simp [sameRef]
 rw [e]
 refine eqParts_cons (run_part_int w 3 .i64 Tryz.underlying3 (refC a) 0 _ (ref0 a)) (run_part_int w 3 .i64 Tryz.underlying3 (refC b) 0 _ (ref0 b)) (run_equalIn_int w (d+1) 3 .i64 .i64 _ _ Tryz.underlying3) ?_
 refine eqParts_cons (run_part_int w 23 .u32 Tryz.underlying23 (refC a) 1 _ (ref1 a)) (run_part_int w 23 .u32 Tryz.underlying23 (refC b) 1 _ (ref1 b)) (run_equalIn_int w (d+1) 23 .u32 .u32 _ _ Tryz.underlying23) ?_
 exact eqParts_cons (run_part_arr w _ _ 32 32 Tryz.underlying22 infoDg _ 2 _ (ref_dgRow ha)) (run_part_arr w _ _ 32 32 Tryz.underlying22 infoDg _ 2 _ (ref_dgRow hb)) (eq32 d _ _ ha.dg hb.dg w) rfl
theorem eqlRf (t : TypeId) (hf : (Tryz.prog.fieldsOf t).toList.map (fun f => (decide (f.name ≠ "_"), f.type, f.offset)) = [(true, 3, 0), (true, 23, 1), (true, 22, 2)])
 (hu:Tryz.prog.underlying t=some (.struct (Tryz.prog.fieldsOf t))) (hp:Tryz.prog.stoodInHeld t=false) (hg:Tryz.prog.eqGuardType Tryz.prog.depth t=false) {a b:RefV} (ha:a.Wf) (hb:b.Wf) (x y:Operand) (w:World) :
 (do eqGuard .eql t x y (.agg (refC a)) (.agg (refC b));binOp .eql t (.agg (refC a)) (.agg (refC b)):Sem Value).run Tryz.prog w=.ok (.bool (sameRef a b)) w ∧
 (do eqGuard .neq t x y (.agg (refC a)) (.agg (refC b));binOp .neq t (.agg (refC a)) (.agg (refC b)):Sem Value).run Tryz.prog w=.ok (.bool (!sameRef a b)) w:=by
 have h:=run_equalIn_agg w 9999 t (refC a) (refC b) hu hp
 rw [eqFields_parts,hf,parts_ref ha hb 9997 w] at h
 constructor
 ·rw [Sem.run_bind,run_eqGuard_agg w .eql t x y _ _ hg,Result.andThen_ok,run_eql_struct,h];rfl
 ·rw [Sem.run_bind,run_eqGuard_agg w .neq t x y _ _ hg,Result.andThen_ok,run_neq_struct,h];rfl
def rowZ (l:Lb8) (n i:Nat):Lb8:=l.take i++List.replicate (n - i) 0
theorem rowZ_length (l:Lb8) (n i:Nat) (hl:l.length=n) (h:i≤n):(rowZ l n i).length=n:=by simp [rowZ,hl];omega
theorem rowZ_set (l:Lb8) (n i:Nat) (hl:l.length=n) (h:i < n):(rowZ l n i).set i (l.getD i 0)=rowZ l n (i+1):=by
 unfold rowZ
 have hi:i < l.length:=by omega
 rw [List.set_append_right _ _ (by rw [List.length_take];omega),List.length_take,Nat.min_eq_left (by omega),Nat.sub_self,show n - i=(n - (i+1))+1 by omega,List.replicate_succ,List.set_cons_zero,List.take_succ_eq_append_getElem hi,List.append_assoc]
 simp [List.getD_eq_getElem?_getD,hi]
theorem rowZ_all (l:Lb8) (n:Nat) (hl:l.length=n):rowZ l n n=l:=by
 unfold rowZ
 rw [List.take_of_length_le (by omega)]
 simp
theorem left_any (x:BitVec 32) (n:Nat) (w:World) (hn:n < 32) :
 Calls Tryz.prog 206 #[.int .u32 (V x),.int .i64 (n:Int)] w fun e w'=>e=.returned (.int .u32 (V (x.rotateLeft n)))∧w=w':=by
 go_enter Tryz.func206,Tryz.ntmps206
 go_wp2_with fail
 go_loop [0,5] (fun v i=>∃ k:Nat,k≤n∧i=.int .i64 k∧v=.int .u32 (V (x.rotateLeft k))) (fun _ i=>n - (intOf i).toNat)
 case atStart=>exact ⟨0,by omega,rfl,by rw [rotl_zero]⟩
 case round=>
  obtain ⟨k,hk,rfl,rfl⟩:=hrel
  obtain ⟨y,hy⟩:∃ y,y=x.rotateLeft k:=⟨_,rfl⟩
  by_cases hlt:k < n
  ·have hs:=lf_val x k (by omega)
   rw [←hy] at hs ⊢
   have v0:=V_lo y
   have v1:=V_hi y
   have hlt':(k:Int) < (n:Int):=by omega
   have HS:=zh hs
   clear hs hy
   go_wp2
   go_round
   case rel=>exact ⟨k+1,by omega,by go_num,by rw [←HS.out];congr 1;first | omega | (rw [Int.tdiv_eq_ediv_of_nonneg v0];omega)⟩
   case measure=>simp [intOf];omega
  ·have hkn:k=n:=by omega
   rw [←hy]
   have HY:Hid (y=x.rotateLeft n):=by rw [hy,hkn];exact (rfl:x.rotateLeft n=x.rotateLeft n)
   have hge:¬ (k:Int) < (n:Int):=by omega
   clear hy hkn hlt
   go_wp2
   go_ret
   exact ⟨by rw [←HY.out];rfl,rfl⟩
def qOf (q:Q4):Array Value:=(u32s q.list).toArray
theorem qOf_one (q:Q4):(qOf q).all (·.oneCell')=true:=u32s_one _
theorem build_q (a b c d:BitVec 32) (w:World):(Instr.build 286 #[(0,.int .u32 (V a)),(1,.int .u32 (V b)),(2,.int .u32 (V c)),(3,.int .u32 (V d))]).run Tryz.prog w=.ok (.agg #[.int .u32 (V a),.int .u32 (V b),.int .u32 (V c),.int .u32 (V d)]) w:=by kernel_rfl
def Z4:Array Value:=(u32s [0,0,0,0]).toArray
theorem zero4 (w:World):(zeroValue 286).run Tryz.prog w=.ok (.agg Z4) w:=by kernel_rfl
theorem infoQ:(Tryz.prog.info? 286).map (·.size)=some 4:=by kernel_rfl
theorem infoU32:(Tryz.prog.info? 23).map (·.size)=some 1:=by kernel_rfl
theorem rquarter_any (q:Q4) (w:World):Calls Tryz.prog 196 #[.agg (qOf q)] w fun e w'=>e=.returned (.agg (qOf (qr q)))∧Below w.heap.size w w':=by
 obtain ⟨X,hX⟩:∃ X,X=Z4:=⟨_,rfl⟩
 have hx:=zero4
 rw [←hX] at hx
 have hXs:X.size=4:=by rw [hX];rfl
 obtain ⟨C,hC⟩:∃ C,C=qOf q:=⟨_,rfl⟩
 have c0:C[0]?=some (.int .u32 (V q.a)):=by rw [hC];rfl
 have c1:C[1]?=some (.int .u32 (V q.b)):=by rw [hC];rfl
 have c2:C[2]?=some (.int .u32 (V q.c)):=by rw [hC];rfl
 have c3:C[3]?=some (.int .u32 (V q.d)):=by rw [hC];rfl
 rw [←hC]
 have a1:At ((w.alloc (.cells C 286)).alloc (.cells X 286)) w.heap.size C 286:=(at_new w C _).alloc _
 have r1:At ((w.alloc (.cells C 286)).alloc (.cells X 286)) (w.heap.size+1) X 286:=by
  have h:=at_new (w.alloc (.cells C 286)) X 286
  simpa using h
 have b1:Below w.heap.size w ((w.alloc (.cells C 286)).alloc (.cells X 286)):=((Below.refl _ _).alloc (Nat.le_refl _) _).alloc (by simp) _
 have XS:=zh hXs;have C0:=zh c0;have C1:=zh c1;have C2:=zh c2;have C3:=zh c3;have A1:=zh a1;have R1:=zh r1;have B1:=zh b1
 clear hXs c0 c1 c2 c3 a1 r1 b1 hX hC
 go_enter Tryz.func196,Tryz.ntmps196
 go_wp2_with fail
 generalize (w.alloc (.cells C 286)).alloc (.cells X 286)=w1 at *
 refine wp_region_plan_in (fun w'=>Below w1.heap.size w1 w') (.take 0 (.take 1 (.take 2 (.take 3 (.take 4 (.take 5 (.take 6 (.take 7 (.take 8 (.take 9 (.take 10 (.take 11 .done)))))))))))) (by kernel_rfl) (by kernel_rfl) (by kernel_rfl) (Below.refl _ _).drew ?_
 refine plan_index_arr 286 23 4 _ _ w.heap.size 0 1 0 zr zr zr ze zr (by omega) Tryz.underlying286 (by kernel_rfl) (by decide) ?_
 (simp only [Mem.zp,Mem.pb,Mem.pc])
 refine plan_cell 23 _ _ _ _ zr zr zr ze (fun w' hw'=>((A1.out.below hw' A1.out.lt).cell _).trans C0.out) Tryz.underlying23 zr ?_
 (simp only [Mem.zp,Mem.pb,Mem.pc])
 refine plan_index_arr 286 23 4 _ _ w.heap.size 0 1 1 zr zr zr ze zr (by omega) Tryz.underlying286 (by kernel_rfl) (by decide) ?_
 (simp only [Mem.zp,Mem.pb,Mem.pc])
 refine plan_cell 23 _ _ _ _ zr zr zr ze (fun w' hw'=>((A1.out.below hw' A1.out.lt).cell _).trans C1.out) Tryz.underlying23 zr ?_
 (simp only [Mem.zp,Mem.pb,Mem.pc])
 refine plan_index_arr 286 23 4 _ _ w.heap.size 0 1 2 zr zr zr ze zr (by omega) Tryz.underlying286 (by kernel_rfl) (by decide) ?_
 (simp only [Mem.zp,Mem.pb,Mem.pc])
 refine plan_cell 23 _ _ _ _ zr zr zr ze (fun w' hw'=>((A1.out.below hw' A1.out.lt).cell _).trans C2.out) Tryz.underlying23 zr ?_
 (simp only [Mem.zp,Mem.pb,Mem.pc])
 refine plan_index_arr 286 23 4 _ _ w.heap.size 0 1 3 zr zr zr ze zr (by omega) Tryz.underlying286 (by kernel_rfl) (by decide) ?_
 (simp only [Mem.zp,Mem.pb,Mem.pc])
 refine plan_cell 23 _ _ _ _ zr zr zr ze (fun w' hw'=>((A1.out.below hw' A1.out.lt).cell _).trans C3.out) Tryz.underlying23 zr ?_
 (simp only [Mem.zp,Mem.pb,Mem.pc])
 iterate 4 ((first | refine Mem.pm1 ?_ | refine Mem.pm2 ?_ | refine Mem.pt ?_ | refine Mem.pf ?_);(simp only [Mem.zp,Mem.pb,Mem.pc]))
 refine plan_nil ?_
 have R2:Hid (At w1.drew (w.heap.size+1) X 286):=R1.out
 have B2:Hid (Below w.heap.size w w1.drew):=B1.out.drew
 clear R1 B1 A1 hx
 generalize w1.drew=W at *
 go_wp2_with fail
 obtain ⟨a1,ha1⟩:∃ x:BitVec 32,x=q.a+q.b:=⟨_,rfl⟩
 rw [r_add q.a q.b,←ha1]
 have Ha1:=zh ha1
 clear ha1
 rw [r_xor]
 refine (left_any (q.d ^^^ a1) 16 _ (by decide)).mono ?_
 rintro e w' ⟨rfl,rfl⟩
 obtain ⟨d1,hd1⟩:∃ x:BitVec 32,x=(q.d ^^^ a1).rotateLeft 16:=⟨_,rfl⟩
 rw [←hd1]
 have Hd1:=zh hd1
 clear hd1
 go_wp2_with fail
 obtain ⟨k1,hk1⟩:∃ x:BitVec 32,x=q.c+d1:=⟨_,rfl⟩
 rw [r_add q.c d1,←hk1]
 have Hk1:=zh hk1
 clear hk1
 rw [r_xor]
 refine (left_any (q.b ^^^ k1) 12 _ (by decide)).mono ?_
 rintro e w' ⟨rfl,rfl⟩
 obtain ⟨b1,hb1⟩:∃ x:BitVec 32,x=(q.b ^^^ k1).rotateLeft 12:=⟨_,rfl⟩
 rw [←hb1]
 have Hb1:=zh hb1
 clear hb1
 go_wp2_with fail
 obtain ⟨a2,ha2⟩:∃ x:BitVec 32,x=a1+b1:=⟨_,rfl⟩
 rw [r_add a1 b1,←ha2]
 have Ha2:=zh ha2
 clear ha2
 rw [r_xor]
 refine (left_any (d1 ^^^ a2) 8 _ (by decide)).mono ?_
 rintro e w' ⟨rfl,rfl⟩
 obtain ⟨d2,hd2⟩:∃ x:BitVec 32,x=(d1 ^^^ a2).rotateLeft 8:=⟨_,rfl⟩
 rw [←hd2]
 have Hd2:=zh hd2
 clear hd2
 go_wp2_with fail
 obtain ⟨k2,hk2⟩:∃ x:BitVec 32,x=k1+d2:=⟨_,rfl⟩
 rw [r_add k1 d2,←hk2]
 have Hk2:=zh hk2
 clear hk2
 rw [r_xor]
 refine (left_any (b1 ^^^ k2) 7 _ (by decide)).mono ?_
 rintro e w' ⟨rfl,rfl⟩
 obtain ⟨b2,hb2⟩:∃ x:BitVec 32,x=(b1 ^^^ k2).rotateLeft 7:=⟨_,rfl⟩
 rw [←hb2]
 have Hb2:=zh hb2
 clear hb2
 have hres:qOf (qr q)=(#[.int .u32 (V a2),.int .u32 (V b2),.int .u32 (V k2),.int .u32 (V d2)]:Array Value):=by rw [Hb2.out,Hk2.out,Hd2.out,Ha2.out,Hb1.out,Hk1.out,Hd1.out,Ha1.out];rfl
 have HRES:=zh hres
 clear hres
 go_wp2_with (first | (refine wpList_store_all zr 286 _ _ zr zr (w.heap.size+1) (#[.int .u32 (V a2),.int .u32 (V b2),.int .u32 (V k2),.int .u32 (V d2)]:Array Value) zr zr (by exact infoQ) _ _ R2.out (by exact XS.out.symm) (u32s_one [a2,b2,k2,d2]) ?_))
 try simp only [Exit.inBlock,Exit.then]
 refine ret_row zr (w.heap.size+1) 286 (#[.int .u32 (V a2),.int .u32 (V b2),.int .u32 (V k2),.int .u32 (V d2)]:Array Value) _ zr (R2.out.row _) Tryz.underlying286 zr (by exact infoQ) ?_
 exact ⟨by rw [HRES.out],below_row B2.out (by omega) _⟩
structure TabV (w:World) (g:Nat) (cs:List Value):Prop where
 lt:g < w.heap.size
 c:w.rangeAt g 0 cs
theorem TabV.below {w w':World} {B g:Nat} {cs:List Value} (h:TabV w g cs) (hb:Below B w w') (hlt:g < B):TabV w' g cs:=
 ⟨Nat.lt_of_lt_of_le h.lt hb.size,fun j v hv=>by rw [hb.cell (p:=⟨g,0+j,none⟩) hlt];exact h.c j v hv⟩
def rowY (l:List (BitVec 32)) (n i:Nat):List (BitVec 32):=l.take i++List.replicate (n - i) 0
theorem rowY_length (l:List (BitVec 32)) (n i:Nat) (hl:l.length=n) (h:i≤n):(rowY l n i).length=n:=by simp [rowY,hl];omega
theorem rowY_set (l:List (BitVec 32)) (n i:Nat) (hl:l.length=n) (h:i < n):(rowY l n i).set i (l.getD i 0)=rowY l n (i+1):=by
 unfold rowY
 have hi:i < l.length:=by omega
 rw [List.set_append_right _ _ (by rw [List.length_take];omega),List.length_take,Nat.min_eq_left (by omega),Nat.sub_self,show n - i=(n - (i+1))+1 by omega,List.replicate_succ,List.set_cons_zero,List.take_succ_eq_append_getElem hi,List.append_assoc]
 simp [List.getD_eq_getElem?_getD,hi]
theorem rowY_all (l:List (BitVec 32)) (n:Nat) (hl:l.length=n):rowY l n n=l:=by
 unfold rowY
 rw [List.take_of_length_le (by omega)]
 simp
def plOk (r:RefV):Bool:=decide (0≤r.pl∧r.pl≤1)
def bodyN (L:List RefV) (n:Nat):Lb8:=BitVec.ofNat 8 L.length::(L.take n).flatMap layRf
theorem bodyN_succ (L:List RefV) (n:Nat) (h:n < L.length):bodyN L (n+1)=bodyN L n++layRf (L.getD n zref):=by
 unfold bodyN
 rw [List.take_add_one,List.getElem?_eq_getElem h,List.flatMap_append]
 simp [List.getD_eq_getElem?_getD,List.getElem?_eq_getElem h]
theorem flat_length (L:List RefV) (h:∀ r∈L,r.Wf):(L.flatMap layRf).length=37*L.length:=by
 induction L with
 | nil=>rfl
 | cons r L ih=>
  rw [List.flatMap_cons,List.length_append,layRf_length (h r (List.mem_cons_self ..)),ih (fun x hx=>h x (List.mem_cons_of_mem _ hx)),List.length_cons]
  omega
theorem bodyN_length (L:List RefV) (n:Nat) (h:∀ r∈L,r.Wf) (hn:n≤L.length):(bodyN L n).length=1+37*n:=by
 unfold bodyN
 rw [List.length_cons,flat_length _ (fun r hr=>h r (List.mem_of_mem_take hr)),List.length_take]
 omega
def layN (L:List RefV):Lb8 × Int:=
 if L.length < 1∨6 < L.length∨L.all plOk=false then ([],1) else (bodyN L L.length++List.replicate (256 - (1+37*L.length)) 0,0)
theorem layN_ok {L:List RefV} {p:Lb8} (h:layN L=(p,0)):(1≤L.length∧L.length≤6)∧L.all plOk=true∧p=bodyN L L.length++List.replicate (256 - (1+37*L.length)) 0:=by
 unfold layN at h
 split at h
 ·injection h with _ h;cases h
 ·rename_i hc
  injection h with h _
  refine ⟨by omega,?_,h.symm⟩
  cases e:L.all plOk
  ·exact absurd (Or.inr (Or.inr e)) hc
  ·rfl
theorem layN_length {L:List RefV} {p:Lb8} (hw:∀ r∈L,r.Wf) (h:layN L=(p,0)):p.length=256:=by
 obtain ⟨h1,_,rfl⟩:=layN_ok h
 rw [List.length_append,bodyN_length L _ hw (Nat.le_refl _),List.length_replicate]
 omega
end Sha
end Go.Proofs.YtplmfmpbkjnbaaaGreatDoor
