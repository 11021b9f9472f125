/- My own texts, merged. -/
import Derived.Test.YtplmfmpbkjnbaaaGreatDoorBQ10
import Derived.Test.YtplmfmpbkjnbaaaGreatDoorBQ07
import Derived.Test.YtplmfmpbkjnbaaaGreatDoorBQ02
import Derived.Test.YtplmfmpbkjnbaaaGreatDoorBQ00
import Derived.Test.YtplmfmpbkjnbaaaGreatDoorBQ08
import Derived.Test.YtplmfmpbkjnbaaaGreatDoorBQ11
set_option maxRecDepth 100000
set_option maxHeartbeats 1000000
namespace Go.Proofs.YtplmfmpbkjnbaaaGreatDoor
namespace Sha
open Go.RowKit Mem
def ints (l:List Nat):List Value:=l.map fun (k:Nat)=>.int .i64 (k:Int)
def plcRow (b:Nat) (i:Nat):Value:=.slice (some ⟨b+i,0,none⟩) 4 4
def Plc (w:World) (b:Nat):Prop:=
 At w (b+8) ((List.range 8).map (plcRow b)).toArray 35∧∀ i,i < 8→At w (b+i) (ints (plc.getD i [])).toArray 3
theorem places_any (w:World):Calls Tryz.prog 195 #[] w fun e w'=>e=.returned (.slice (some ⟨w.heap.size+8,0,none⟩) 8 8)∧Plc w' w.heap.size∧Below w.heap.size w w':=by
 go_enter Tryz.func195,Tryz.ntmps195
 go_wp2_with fail
 go_ret
 obtain ⟨w1,e1⟩:∃ x,x=w.alloc (.cells #[.int .i64 0,.int .i64 4,.int .i64 8,.int .i64 12] 3):=⟨_,rfl⟩
 rw [←e1]
 obtain ⟨w2,e2⟩:∃ x,x=w1.alloc (.cells #[.int .i64 1,.int .i64 5,.int .i64 9,.int .i64 13] 3):=⟨_,rfl⟩
 rw [←e2]
 obtain ⟨w3,e3⟩:∃ x,x=w2.alloc (.cells #[.int .i64 2,.int .i64 6,.int .i64 10,.int .i64 14] 3):=⟨_,rfl⟩
 rw [←e3]
 obtain ⟨w4,e4⟩:∃ x,x=w3.alloc (.cells #[.int .i64 3,.int .i64 7,.int .i64 11,.int .i64 15] 3):=⟨_,rfl⟩
 rw [←e4]
 obtain ⟨w5,e5⟩:∃ x,x=w4.alloc (.cells #[.int .i64 0,.int .i64 5,.int .i64 10,.int .i64 15] 3):=⟨_,rfl⟩
 rw [←e5]
 obtain ⟨w6,e6⟩:∃ x,x=w5.alloc (.cells #[.int .i64 1,.int .i64 6,.int .i64 11,.int .i64 12] 3):=⟨_,rfl⟩
 rw [←e6]
 obtain ⟨w7,e7⟩:∃ x,x=w6.alloc (.cells #[.int .i64 2,.int .i64 7,.int .i64 8,.int .i64 13] 3):=⟨_,rfl⟩
 rw [←e7]
 obtain ⟨w8,e8⟩:∃ x,x=w7.alloc (.cells #[.int .i64 3,.int .i64 4,.int .i64 9,.int .i64 14] 3):=⟨_,rfl⟩
 rw [←e8]
 have s0:w.heap.size=w.heap.size:=rfl
 have s1:w1.heap.size=w.heap.size+1:=by rw [e1];simp
 have s2:w2.heap.size=w.heap.size+2:=by rw [e2];simp [s1]
 have s3:w3.heap.size=w.heap.size+3:=by rw [e3];simp [s2]
 have s4:w4.heap.size=w.heap.size+4:=by rw [e4];simp [s3]
 have s5:w5.heap.size=w.heap.size+5:=by rw [e5];simp [s4]
 have s6:w6.heap.size=w.heap.size+6:=by rw [e6];simp [s5]
 have s7:w7.heap.size=w.heap.size+7:=by rw [e7];simp [s6]
 have s8:w8.heap.size=w.heap.size+8:=by rw [e8];simp [s7]
 obtain ⟨w9,e9⟩:∃ x,x=w8.alloc (.cells ((List.range 8).map (plcRow w.heap.size)).toArray 35):=⟨_,rfl⟩
 have f9:w9=w8.alloc (.cells #[.slice (some ⟨w.heap.size,0,none⟩) 4 4,.slice (some ⟨w.heap.size+1,0,none⟩) 4 4,.slice (some ⟨w.heap.size+1+1,0,none⟩) 4 4,.slice (some ⟨w.heap.size+1+1+1,0,none⟩) 4 4,.slice (some ⟨w.heap.size+1+1+1+1,0,none⟩) 4 4,.slice (some ⟨w.heap.size+1+1+1+1+1,0,none⟩) 4 4,.slice (some ⟨w.heap.size+1+1+1+1+1+1,0,none⟩) 4 4,.slice (some ⟨w.heap.size+1+1+1+1+1+1+1,0,none⟩) 4 4] 35):=e9
 rw [←f9]
 have a0:At w9 (w.heap.size+0) (ints (plc.getD 0 [])).toArray 3:=by
  have h:At w1 (w.heap.size+0) (ints (plc.getD 0 [])).toArray 3:=by have h:=at_new w (ints (plc.getD 0 [])).toArray 3;rw [s0] at h;rw [e1];exact h
  replace h:=h.alloc (.cells #[.int .i64 1,.int .i64 5,.int .i64 9,.int .i64 13] 3);rw [←e2] at h
  replace h:=h.alloc (.cells #[.int .i64 2,.int .i64 6,.int .i64 10,.int .i64 14] 3);rw [←e3] at h
  replace h:=h.alloc (.cells #[.int .i64 3,.int .i64 7,.int .i64 11,.int .i64 15] 3);rw [←e4] at h
  replace h:=h.alloc (.cells #[.int .i64 0,.int .i64 5,.int .i64 10,.int .i64 15] 3);rw [←e5] at h
  replace h:=h.alloc (.cells #[.int .i64 1,.int .i64 6,.int .i64 11,.int .i64 12] 3);rw [←e6] at h
  replace h:=h.alloc (.cells #[.int .i64 2,.int .i64 7,.int .i64 8,.int .i64 13] 3);rw [←e7] at h
  replace h:=h.alloc (.cells #[.int .i64 3,.int .i64 4,.int .i64 9,.int .i64 14] 3);rw [←e8] at h
  replace h:=h.alloc (.cells ((List.range 8).map (plcRow w.heap.size)).toArray 35);rw [←e9] at h
  exact h
 have a1:At w9 (w.heap.size+1) (ints (plc.getD 1 [])).toArray 3:=by
  have h:At w2 (w.heap.size+1) (ints (plc.getD 1 [])).toArray 3:=by have h:=at_new w1 (ints (plc.getD 1 [])).toArray 3;rw [s1] at h;rw [e2];exact h
  replace h:=h.alloc (.cells #[.int .i64 2,.int .i64 6,.int .i64 10,.int .i64 14] 3);rw [←e3] at h
  replace h:=h.alloc (.cells #[.int .i64 3,.int .i64 7,.int .i64 11,.int .i64 15] 3);rw [←e4] at h
  replace h:=h.alloc (.cells #[.int .i64 0,.int .i64 5,.int .i64 10,.int .i64 15] 3);rw [←e5] at h
  replace h:=h.alloc (.cells #[.int .i64 1,.int .i64 6,.int .i64 11,.int .i64 12] 3);rw [←e6] at h
  replace h:=h.alloc (.cells #[.int .i64 2,.int .i64 7,.int .i64 8,.int .i64 13] 3);rw [←e7] at h
  replace h:=h.alloc (.cells #[.int .i64 3,.int .i64 4,.int .i64 9,.int .i64 14] 3);rw [←e8] at h
  replace h:=h.alloc (.cells ((List.range 8).map (plcRow w.heap.size)).toArray 35);rw [←e9] at h
  exact h
 have a2:At w9 (w.heap.size+2) (ints (plc.getD 2 [])).toArray 3:=by
  have h:At w3 (w.heap.size+2) (ints (plc.getD 2 [])).toArray 3:=by have h:=at_new w2 (ints (plc.getD 2 [])).toArray 3;rw [s2] at h;rw [e3];exact h
  replace h:=h.alloc (.cells #[.int .i64 3,.int .i64 7,.int .i64 11,.int .i64 15] 3);rw [←e4] at h
  replace h:=h.alloc (.cells #[.int .i64 0,.int .i64 5,.int .i64 10,.int .i64 15] 3);rw [←e5] at h
  replace h:=h.alloc (.cells #[.int .i64 1,.int .i64 6,.int .i64 11,.int .i64 12] 3);rw [←e6] at h
  replace h:=h.alloc (.cells #[.int .i64 2,.int .i64 7,.int .i64 8,.int .i64 13] 3);rw [←e7] at h
  replace h:=h.alloc (.cells #[.int .i64 3,.int .i64 4,.int .i64 9,.int .i64 14] 3);rw [←e8] at h
  replace h:=h.alloc (.cells ((List.range 8).map (plcRow w.heap.size)).toArray 35);rw [←e9] at h
  exact h
 have a3:At w9 (w.heap.size+3) (ints (plc.getD 3 [])).toArray 3:=by
  have h:At w4 (w.heap.size+3) (ints (plc.getD 3 [])).toArray 3:=by have h:=at_new w3 (ints (plc.getD 3 [])).toArray 3;rw [s3] at h;rw [e4];exact h
  replace h:=h.alloc (.cells #[.int .i64 0,.int .i64 5,.int .i64 10,.int .i64 15] 3);rw [←e5] at h
  replace h:=h.alloc (.cells #[.int .i64 1,.int .i64 6,.int .i64 11,.int .i64 12] 3);rw [←e6] at h
  replace h:=h.alloc (.cells #[.int .i64 2,.int .i64 7,.int .i64 8,.int .i64 13] 3);rw [←e7] at h
  replace h:=h.alloc (.cells #[.int .i64 3,.int .i64 4,.int .i64 9,.int .i64 14] 3);rw [←e8] at h
  replace h:=h.alloc (.cells ((List.range 8).map (plcRow w.heap.size)).toArray 35);rw [←e9] at h
  exact h
 have a4:At w9 (w.heap.size+4) (ints (plc.getD 4 [])).toArray 3:=by
  have h:At w5 (w.heap.size+4) (ints (plc.getD 4 [])).toArray 3:=by have h:=at_new w4 (ints (plc.getD 4 [])).toArray 3;rw [s4] at h;rw [e5];exact h
  replace h:=h.alloc (.cells #[.int .i64 1,.int .i64 6,.int .i64 11,.int .i64 12] 3);rw [←e6] at h
  replace h:=h.alloc (.cells #[.int .i64 2,.int .i64 7,.int .i64 8,.int .i64 13] 3);rw [←e7] at h
  replace h:=h.alloc (.cells #[.int .i64 3,.int .i64 4,.int .i64 9,.int .i64 14] 3);rw [←e8] at h
  replace h:=h.alloc (.cells ((List.range 8).map (plcRow w.heap.size)).toArray 35);rw [←e9] at h
  exact h
 have a5:At w9 (w.heap.size+5) (ints (plc.getD 5 [])).toArray 3:=by
  have h:At w6 (w.heap.size+5) (ints (plc.getD 5 [])).toArray 3:=by have h:=at_new w5 (ints (plc.getD 5 [])).toArray 3;rw [s5] at h;rw [e6];exact h
  replace h:=h.alloc (.cells #[.int .i64 2,.int .i64 7,.int .i64 8,.int .i64 13] 3);rw [←e7] at h
  replace h:=h.alloc (.cells #[.int .i64 3,.int .i64 4,.int .i64 9,.int .i64 14] 3);rw [←e8] at h
  replace h:=h.alloc (.cells ((List.range 8).map (plcRow w.heap.size)).toArray 35);rw [←e9] at h
  exact h
 have a6:At w9 (w.heap.size+6) (ints (plc.getD 6 [])).toArray 3:=by
  have h:At w7 (w.heap.size+6) (ints (plc.getD 6 [])).toArray 3:=by have h:=at_new w6 (ints (plc.getD 6 [])).toArray 3;rw [s6] at h;rw [e7];exact h
  replace h:=h.alloc (.cells #[.int .i64 3,.int .i64 4,.int .i64 9,.int .i64 14] 3);rw [←e8] at h
  replace h:=h.alloc (.cells ((List.range 8).map (plcRow w.heap.size)).toArray 35);rw [←e9] at h
  exact h
 have a7:At w9 (w.heap.size+7) (ints (plc.getD 7 [])).toArray 3:=by
  have h:At w8 (w.heap.size+7) (ints (plc.getD 7 [])).toArray 3:=by have h:=at_new w7 (ints (plc.getD 7 [])).toArray 3;rw [s7] at h;rw [e8];exact h
  replace h:=h.alloc (.cells ((List.range 8).map (plcRow w.heap.size)).toArray 35);rw [←e9] at h
  exact h
 have t9:At w9 (w.heap.size+8) ((List.range 8).map (plcRow w.heap.size)).toArray 35:=by have h:=at_new w8 ((List.range 8).map (plcRow w.heap.size)).toArray 35;rw [s8] at h;rw [e9];exact h
 have b9:Below w.heap.size w w9:=by
  have h:=Below.refl w.heap.size w
  replace h:=h.alloc (by omega) (.cells #[.int .i64 0,.int .i64 4,.int .i64 8,.int .i64 12] 3);rw [←e1] at h
  replace h:=h.alloc (by omega) (.cells #[.int .i64 1,.int .i64 5,.int .i64 9,.int .i64 13] 3);rw [←e2] at h
  replace h:=h.alloc (by omega) (.cells #[.int .i64 2,.int .i64 6,.int .i64 10,.int .i64 14] 3);rw [←e3] at h
  replace h:=h.alloc (by omega) (.cells #[.int .i64 3,.int .i64 7,.int .i64 11,.int .i64 15] 3);rw [←e4] at h
  replace h:=h.alloc (by omega) (.cells #[.int .i64 0,.int .i64 5,.int .i64 10,.int .i64 15] 3);rw [←e5] at h
  replace h:=h.alloc (by omega) (.cells #[.int .i64 1,.int .i64 6,.int .i64 11,.int .i64 12] 3);rw [←e6] at h
  replace h:=h.alloc (by omega) (.cells #[.int .i64 2,.int .i64 7,.int .i64 8,.int .i64 13] 3);rw [←e7] at h
  replace h:=h.alloc (by omega) (.cells #[.int .i64 3,.int .i64 4,.int .i64 9,.int .i64 14] 3);rw [←e8] at h
  replace h:=h.alloc (by omega) (.cells ((List.range 8).map (plcRow w.heap.size)).toArray 35);rw [←e9] at h
  exact h
 refine ⟨rfl,⟨t9,fun i hi=>?_⟩,b9⟩
 match i,hi with
 | 0,_=>exact a0
 | 1,_=>exact a1
 | 2,_=>exact a2
 | 3,_=>exact a3
 | 4,_=>exact a4
 | 5,_=>exact a5
 | 6,_=>exact a6
 | 7,_=>exact a7
def Z12:Array Value:=(u8s (List.replicate 12 0)).toArray
theorem zero12 (w:World):(zeroValue 214).run Tryz.prog w=.ok (.agg Z12) w:=by kernel_rfl
theorem info12:(Tryz.prog.info? 214).map (·.size)=some 12:=by kernel_rfl
theorem cnonce_low (e:BitVec 32) (b:BitVec 64) (j:Nat) (h:j < 4):(cnonce e b).getD j 0=wb e (8*j):=by
 simp [cnonce,List.getD_eq_getElem?_getD,List.getElem?_append,h]
theorem cnonce_high (e:BitVec 32) (b:BitVec 64) (j:Nat) (h:j < 8):(cnonce e b).getD (4+j) 0=wb64 b (8*j):=by
 have h4:¬ 4+j < 4:=by omega
 simp [cnonce,List.getD_eq_getElem?_getD,List.getElem?_append,h,h4]
theorem wb_pow' (x:BitVec 32) (k:Nat):V x / 2 ^ k % 256=((wb x k).toNat:Int):=wb_val x k _ (by simp)
theorem wb64_pow (x:BitVec 64) (k:Nat):(x.toNat:Int) / 2 ^ k % 256=((wb64 x k).toNat:Int):=by
 have h:(wb64 x k).toNat=x.toNat / 2 ^ k % 256:=by
  rw [wb64,BitVec.toNat_setWidth,BitVec.toNat_ushiftRight,Nat.shiftRight_eq_div_pow]
 rw [h];simp
structure NInv (L:Lb8) (B:Nat) (X:Array Value) (w wr:World):Prop where
 r:At wr B X 214
 k:At wr (B+1) (u8s L).toArray 214
 b:Below w.heap.size w wr
def ncOf (e:BitVec 32) (b:BitVec 64):Array Value:=(u8s (cnonce e b)).toArray
theorem rnonce_any (e:BitVec 32) (b:BitVec 64) (w:World) :
 Calls Tryz.prog 135 #[.int .u32 (V e),.int .u64 (b.toNat:Int)] w fun o w'=>o=.returned (.agg (ncOf e b))∧Below w.heap.size w w':=by
 obtain ⟨X,hX⟩:∃ X,X=Z12:=⟨_,rfl⟩
 have hx:=zero12
 rw [←hX] at hx
 have hXs:X.size=12:=by rw [hX];simp [Z12,u8s]
 obtain ⟨l,hl⟩:∃ l,l=cnonce e b:=⟨_,rfl⟩
 have ll:l.length=12:=by rw [hl];exact cnonce_length e b
 have hlo:∀ j,j < 4→l.getD j 0=wb e (8*j):=by rw [hl];exact cnonce_low e b
 have hhi:∀ j,j < 8→l.getD (4+j) 0=wb64 b (8*j):=by rw [hl];exact cnonce_high e b
 have hI:NInv (rowZ l 12 0) w.heap.size X w ((w.alloc (.cells X 214)).alloc (.cells X 214)):=by
  refine ⟨(at_new w X _).alloc _,?_,((Below.refl _ _).alloc (Nat.le_refl _) _).alloc (by simp) _⟩
  have h:=at_new (w.alloc (.cells X 214)) X 214
  have e:(u8s (rowZ l 12 0)).toArray=X:=by rw [hX];simp [rowZ,Z12]
  rw [e]
  simpa using h
 have HI:=zh hI;have HL:=zh hl;have XS:=zh hXs;have LL:=zh ll;have LO:=zh hlo;have HH:=zh hhi
 clear hI hl hX hXs ll hlo hhi
 have ve0:=V_lo e;have ve1:=V_hi e
 have vb0:0≤(b.toNat:Int):=Int.natCast_nonneg _
 go_enter Tryz.func135,Tryz.ntmps135
 go_wp2_with fail
 generalize (w.alloc (.cells X 214)).alloc (.cells X 214)=w4 at *
 clear hx
 go_loopw [6] (fun i wr=>∃ j:Nat,j≤4∧i=.int .i64 j∧NInv (rowZ l 12 j) w.heap.size X w wr) (fun i _=>4 - (intOf i).toNat)
 case atStart=>exact ⟨0,by omega,rfl,HI.out⟩
 case round=>
  clear HI
  obtain ⟨j,hj,rfl,hI⟩:=hrel
  by_cases hlt:j < 4
  ·have hset:(u8s (rowZ l 12 j)).toArray.setIfInBounds j (.int .u8 ((wb e (8*j)).toNat:Int))=(u8s (rowZ l 12 (j+1))).toArray:=by
    rw [←rowZ_set l 12 j LL.out (by omega),LO.out j hlt];exact u8s_set _ _ _
   have hEs:j < (u8s (rowZ l 12 j)).toArray.size:=by simp [u8s,rowZ_length l 12 j LL.out (by omega)];omega
   have hR:=hI.r;have hB:=hI.b;have hk:=hI.k
   obtain ⟨E,hE⟩:∃ E,E=(u8s (rowZ l 12 j)).toArray:=⟨_,rfl⟩
   rw [←hE] at hk hset hEs
   have KK:=zh hk;have ST:=zh hset;have ES:=zh hEs;have RR:=zh hR;have BB:=zh hB
   have hlt':(j:Int) < 4:=by omega
   clear hk hset hEs hI hE hR hB
   go_wp2_with (refine Mem.wpList_store_one zr 5 _ _ zr zr (w.heap.size+1) j (.int .u8 ((wb e (8*j)).toNat:Int)) zr (by exact congrArg (Value.int .u8) (wb_pow' e _)) zr infoB _ _ KK.out ES.out ?_;intro w' hat' ho' hb';have KK':=zh hat';have RR':=zh (at_keep RR.out ho' (by omega));have BB':=zh (hb' _ _ BB.out (by omega));clear hat' ho' hb')
   go_roundw
   case rel=>exact ⟨j+1,by omega,by go_num,RR'.out,by rw [←ST.out];exact KK'.out,BB'.out⟩
   case measure=>simp [intOf];omega
  ·have hj4:j=4:=by omega
   have hge:¬ (j:Int) < 4:=by omega
   rw [hj4] at hI
   have hI2:=zh hI
   clear hI hj4 hlt hj
   go_wp2_with fail
   go_loopw [7] (fun i wr=>∃ j:Nat,j≤8∧i=.int .i64 j∧NInv (rowZ l 12 (4+j)) w.heap.size X w wr) (fun i _=>8 - (intOf i).toNat)
   case atStart=>exact ⟨0,by omega,rfl,hI2.out⟩
   case round=>
    clear hI2
    obtain ⟨k,hk8,rfl,hI⟩:=hrel
    by_cases hlt:k < 8
    ·have hset:(u8s (rowZ l 12 (4+k))).toArray.setIfInBounds (4+k) (.int .u8 ((wb64 b (8*k)).toNat:Int))=(u8s (rowZ l 12 (4+(k+1)))).toArray:=by
      rw [show 4+(k+1)=(4+k)+1 by omega,←rowZ_set l 12 (4+k) LL.out (by omega),HH.out k hlt];exact u8s_set _ _ _
     have hEs:4+k < (u8s (rowZ l 12 (4+k))).toArray.size:=by simp [u8s,rowZ_length l 12 (4+k) LL.out (by omega)];omega
     have hR:=hI.r;have hB:=hI.b;have hk:=hI.k
     obtain ⟨E,hE⟩:∃ E,E=(u8s (rowZ l 12 (4+k))).toArray:=⟨_,rfl⟩
     rw [←hE] at hk hset hEs
     have KK:=zh hk;have ST:=zh hset;have ES:=zh hEs;have RR:=zh hR;have BB:=zh hB
     have hlt':(k:Int) < 8:=by omega
     clear hk hset hEs hI hE hR hB
     go_wp2_with (refine Mem.wpList_store_one zr 5 _ _ zr zr (w.heap.size+1) (4+k) (.int .u8 ((wb64 b (8*k)).toNat:Int)) zr (by exact congrArg (Value.int .u8) (wb64_pow b _)) zr infoB _ _ KK.out ES.out ?_;intro w' hat' ho' hb';have KK':=zh hat';have RR':=zh (at_keep RR.out ho' (by omega));have BB':=zh (hb' _ _ BB.out (by omega));clear hat' ho' hb')
     go_roundw
     case rel=>exact ⟨k+1,by omega,by go_num,RR'.out,by rw [←ST.out];exact KK'.out,BB'.out⟩
     case measure=>simp [intOf];omega
    ·have hk8':4+k=12:=by omega
     have hge2:¬ (k:Int) < 8:=by omega
     have hall:rowZ l 12 (4+k)=l:=by rw [hk8'];exact rowZ_all l 12 LL.out
     rw [hall] at hI
     obtain ⟨M,hM⟩:∃ M,M=ncOf e b:=⟨_,rfl⟩
     have hk:=hI.k
     rw [show (u8s l).toArray=M by rw [hM,HL.out];rfl] at hk
     have hMs:M.size=12:=by rw [hM];simp [ncOf,u8s,cnonce_length]
     have hMo:M.all (·.oneCell')=true:=by rw [hM];exact u8s_one _
     have HM:=zh hM;have MS:=zh hMs;have MO:=zh hMo;have KK:=zh hk;have RR:=zh hI.r;have BB:=zh hI.b
     clear hM hMs hMo hk hI hall hk8' hlt hk8
     go_wp2_with (first | (refine wpList_load_all zr 214 _ zr (w.heap.size+1) zr _ Tryz.underlying214 zr M _ KK.out (by rw [MS.out];exact info12) ?_) | (refine wpList_store_all zr 214 _ _ zr zr w.heap.size M zr zr (by rw [MS.out];exact info12) _ _ RR.out (by rw [MS.out,XS.out]) MO.out ?_))
     try simp only [Exit.inBlock,Exit.then]
     refine ret_row zr w.heap.size 214 M _ zr (RR.out.row M) Tryz.underlying214 zr (by rw [MS.out];exact info12) ?_
     exact ⟨by rw [HM.out],below_row BB.out (by omega) M⟩
def readTo (n:Nat) (d:Lb8) (l:List (Nat × Lb8)):Nat→Lb8
 | 0=>d
 | j+1=>if (l.getD j (0,[])).1=n then (l.getD j (0,[])).2 else readTo n d l j
def blkOf (b:Lb8) (n:Nat):Lb8:=(b.drop (n*256)).take 256
def WfP (n:Nat) (l:List (Nat × Lb8)):Prop:=∀ j,j < l.length→(l.getD j (0,[])).1 < n∧(l.getD j (0,[])).2.length=256
end Sha
end Go.Proofs.YtplmfmpbkjnbaaaGreatDoor
