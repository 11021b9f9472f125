/- My own texts, merged. -/
import Derived.Test.YtddjdaocdfkgeaaGreatDoorBQ29
import Derived.Test.YtddjdaocdfkgeaaGreatDoorBQ01
import Derived.Test.YtddjdaocdfkgeaaGreatDoorBQ28
import Derived.Deep.Cut
set_option maxRecDepth 100000
set_option maxHeartbeats 2000000
namespace Go.Proofs.YtddjdaocdfkgeaaGreatDoor
namespace Sha
open Go.RowKit Mem
theorem ncOf_size (e:BitVec 32) (b:BitVec 64):(ncOf e b).size=12:=by simp [ncOf,u8s,cnonce_length]
theorem ncOf_one (e:BitVec 32) (b:BitVec 64):(ncOf e b).all (·.oneCell')=true:=u8s_one _
def lo32 (b:BitVec 64):BitVec 32:=b.setWidth 32
def hi32 (b:BitVec 64):BitVec 32:=(b >>> 32).setWidth 32
theorem lo_val (b:BitVec 64):(b.toNat:Int) % 4294967296=V (lo32 b):=by
 unfold V lo32
 rw [BitVec.toNat_setWidth]
 omega
theorem hi_val (b:BitVec 64):(b.toNat:Int) / 4294967296=V (hi32 b):=by
 have:=b.isLt
 unfold V hi32
 rw [BitVec.toNat_setWidth,BitVec.toNat_ushiftRight,Nat.shiftRight_eq_div_pow]
 omega
theorem wb_lo (b:BitVec 64) (j:Nat) (h:j < 4):wb (lo32 b) (8*j)=wb64 b (8*j):=by
 unfold wb lo32 wb64
 apply BitVec.eq_of_getLsbD_eq
 intro i hi
 have h8:8*j+i < 32:=by omega
 simp [BitVec.getLsbD_ushiftRight,hi,h8]
theorem wb_hi (b:BitVec 64) (j:Nat) (h:j < 4):wb (hi32 b) (8*j)=wb64 b (8*(4+j)):=by
 unfold wb hi32 wb64
 apply BitVec.eq_of_getLsbD_eq
 intro i hi
 have h8:8*j+i < 32:=by omega
 have h9:32+(8*j+i)=8*(4+j)+i:=by omega
 simp [BitVec.getLsbD_ushiftRight,hi,h8,h9]
theorem cnonce_row (e:BitVec 32) (b:BitVec 64) :
 put4 (put4 (put4 (List.replicate 12 0) 0 e 4) 4 (lo32 b) 4) 8 (hi32 b) 4=cnonce e b:=by
 have hl:=cnonce_length e b
 have h1:=put4_row (cnonce e b) 12 0 e hl (by decide) (fun j hj=>by rw [Nat.zero_add];exact cnonce_low e b j hj) 4 (by decide)
 have h2:=put4_row (cnonce e b) 12 4 (lo32 b) hl (by decide) (fun j hj=>by rw [cnonce_high e b j (by omega),wb_lo b j hj]) 4 (by decide)
 have h3:=put4_row (cnonce e b) 12 8 (hi32 b) hl (by decide) (fun j hj=>by rw [show 8+j=4+(4+j) by omega,cnonce_high e b (4+j) (by omega),wb_hi b j hj]) 4 (by decide)
 have h0:rowZ (cnonce e b) 12 0=List.replicate 12 0:=by simp [rowZ]
 rw [h0] at h1
 rw [h1,h2,h3]
 exact rowZ_all _ 12 hl
theorem nonce_any (e:BitVec 32) (b:BitVec 64) (w:World) :
 Calls Tryz.prog 83 #[.int .u32 (V e),.int .u64 (b.toNat:Int)] w fun o w'=>o=.returned (.agg (ncOf e b))∧Below w.heap.size w w':=by
 obtain ⟨X,hX⟩:∃ X,X=Z12:=⟨_,rfl⟩
 have hx:=zero12
 rw [←hX] at hx
 have hXs:X.size=12:=by rw [hX];simp [Z12,u8s]
 obtain ⟨l0,h0⟩:∃ l,l=(List.replicate 12 0:Lb8):=⟨_,rfl⟩
 obtain ⟨l1,h1⟩:∃ l,l=put4 l0 0 e 4:=⟨_,rfl⟩
 obtain ⟨l2,h2⟩:∃ l,l=put4 l1 4 (lo32 b) 4:=⟨_,rfl⟩
 obtain ⟨l3,h3⟩:∃ l,l=put4 l2 8 (hi32 b) 4:=⟨_,rfl⟩
 have e0:l0.length=12:=by rw [h0];simp
 have e1:l1.length=12:=by rw [h1,put4_length,e0]
 have e2:l2.length=12:=by rw [h2,put4_length,e1]
 have hend:l3=cnonce e b:=by rw [h3,h2,h1,h0];exact cnonce_row e b
 have p1:=fun wx bx (h:At wx bx (u8s l0).toArray 124)=>putWord_any e l0 bx 0 12 12 124 wx h (by decide) (by rw [e0];decide)
 have p2:=fun wx bx (h:At wx bx (u8s l1).toArray 124)=>putWord_any (lo32 b) l1 bx 4 8 8 124 wx h (by decide) (by rw [e1];decide)
 have p3:=fun wx bx (h:At wx bx (u8s l2).toArray 124)=>putWord_any (hi32 b) l2 bx 8 4 4 124 wx h (by decide) (by rw [e2];decide)
 rw [←h1] at p1;rw [←h2] at p2;rw [←h3] at p3
 have hX0:(u8s l0).toArray=X:=by rw [hX,h0];rfl
 have a1:At ((w.alloc (.cells X 124)).alloc (.cells X 124)) (w.heap.size+1) (u8s l0).toArray 124:=by
  have h:=at_new (w.alloc (.cells X 124)) X 124
  rw [hX0];simpa using h
 have r1:At ((w.alloc (.cells X 124)).alloc (.cells X 124)) w.heap.size X 124:=(at_new w X _).alloc _
 have b1:Below w.heap.size w ((w.alloc (.cells X 124)).alloc (.cells X 124)):=((Below.refl _ _).alloc (Nat.le_refl _) _).alloc (by simp) _
 have P1:=zh p1;have P2:=zh p2;have P3:=zh p3;have EN:=zh hend;have XS:=zh hXs;have A1:=zh a1;have R1:=zh r1;have B1:=zh b1
 have ve0:=V_lo e
 have vb0:0≤(b.toNat:Int):=Int.natCast_nonneg _
 clear p1 p2 p3 hend hXs a1 r1 b1 h0 h1 h2 h3 e0 e1 e2 hX hX0
 go_enter Tryz.func83,Tryz.ntmps83
 go_wp2_with fail
 clear hx
 generalize (w.alloc (.cells X 124)).alloc (.cells X 124)=w2 at *
 refine (P1.out _ _ A1.out).mono ?_
 rintro o w3 ⟨rfl,hp⟩
 have A2:=zh hp.a;have R2:=zh (R1.out.but hp.o (by omega));have B2:=zh (hp.k _ _ B1.out (by omega))
 clear hp A1 R1 B1 P1
 go_wp2_with fail
 rw [lo_val]
 refine (P2.out _ _ A2.out).mono ?_
 rintro o w4 ⟨rfl,hp⟩
 have A3:=zh hp.a;have R3:=zh (R2.out.but hp.o (by omega));have B3:=zh (hp.k _ _ B2.out (by omega))
 clear hp A2 R2 B2 P2
 go_wp2_with fail
 rw [hi_val]
 refine (P3.out _ _ A3.out).mono ?_
 rintro o w5 ⟨rfl,hp⟩
 have ha:=hp.a
 obtain ⟨M,hM⟩:∃ M,M=ncOf e b:=⟨_,rfl⟩
 rw [show (u8s l3).toArray=M by rw [hM,EN.out];rfl] at ha
 have hMs:M.size=12:=by rw [hM];exact ncOf_size _ _
 have hMo:M.all (·.oneCell')=true:=by rw [hM];exact ncOf_one _ _
 have A4:=zh ha;have R4:=zh (R3.out.but hp.o (by omega));have B4:=zh (hp.k _ _ B3.out (by omega));have HM:=zh hM;have MS:=zh hMs;have MO:=zh hMo
 clear hp ha A3 R3 B3 P3 hM hMs hMo
 go_wp2_with (first | (refine wpList_load_all zr 124 _ zr (w.heap.size+1) zr _ Tryz.underlying124 zr M _ A4.out (by rw [MS.out];exact info12) ?_) | (refine wpList_store_all zr 124 _ _ zr zr w.heap.size M zr zr (by rw [MS.out];exact info12) _ _ R4.out (by rw [MS.out,XS.out]) MO.out ?_))
 try simp only [Exit.inBlock,Exit.then]
 refine ret_row zr w.heap.size 124 M _ zr (R4.out.row M) Tryz.underlying124 zr (by rw [MS.out];exact info12) ?_
 exact ⟨by rw [HM.out],below_row B4.out (by omega) M⟩
def ksr (key nonce:Lb8) (n:BitVec 32) (size j:Nat):Lb8:=(cblks key nonce n j).take size++List.replicate (size - 64*j) 0
theorem ksr_length (key nonce:Lb8) (n:BitVec 32) (size j:Nat):(ksr key nonce n size j).length=size:=by
 simp [ksr,cblks_length];omega
theorem ksr_splice (key nonce:Lb8) (n:BitVec 32) (size j:Nat) (h:64*j < size) :
 Mem.splice (u8s (ksr key nonce n size j)).toArray (64*j) (u8s ((cblk key nonce (n+BitVec.ofNat 32 j)).take (min 64 (size - 64*j))))=(u8s (ksr key nonce n size (j+1))).toArray:=by
 have e0:ksr key nonce n size j=cblks key nonce n j++List.replicate (size - 64*j) 0:=by
  rw [ksr,List.take_of_length_le (by rw [cblks_length];omega)]
 have lb:=cblks_length key nonce n j
 have lk:=cblk_length key nonce (n+BitVec.ofNat 32 j)
 have e1:ksr key nonce n size (j+1)=cblks key nonce n j++(cblk key nonce (n+BitVec.ofNat 32 j)).take (min 64 (size - 64*j))++List.replicate (size - 64*j - min 64 (size - 64*j)) 0:=by
  rw [ksr,cblks,List.take_append,lb,List.take_of_length_le (by omega)]
  congr 2
  ·by_cases h32:64≤size - 64*j
   ·rw [Nat.min_eq_left h32,List.take_of_length_le (by omega),List.take_of_length_le (by omega)]
   ·rw [Nat.min_eq_right (by omega)]
  ·omega
 rw [e0,e1]
 unfold Mem.splice u8s
 rw [List.map_append,List.map_append,List.map_append]
 have h1:(List.map (fun x:BitVec 8=>Value.int .u8 (x.toNat:Int)) (cblks key nonce n j)).length=64*j:=by simp [lb]
 congr 1
 rw [List.take_left' h1]
 congr 1
 rw [List.length_map,List.length_take,lk,List.drop_append,h1,List.drop_of_length_le (by omega),List.nil_append,←List.map_drop,List.drop_replicate]
 congr 2
 omega
theorem ksr_zero (key nonce:Lb8) (n:BitVec 32) (size:Nat):ksr key nonce n size 0=List.replicate size 0:=by simp [ksr,cblks]
theorem ksr_all (key nonce:Lb8) (n:BitVec 32) (size j:Nat) (h:size≤64*j):ksr key nonce n size j=cstream key nonce n size:=by
 rw [ksr,cstream_from key nonce n size j h,Nat.sub_eq_zero_of_le h,List.replicate_zero,List.append_nil]
theorem V_up (n:BitVec 32) (j:Nat):(V (n+BitVec.ofNat 32 j)+1) % (4294967296:Int)=V (n+BitVec.ofNat 32 (j+1)):=by
 rw [show (1:Int)=V 1 from rfl,r_add]
 congr 1
 rw [BitVec.add_assoc]
 congr 1
 apply BitVec.eq_of_toNat_eq
 simp
structure CSInv (key nonce:Lb8) (n:BitVec 32) (size:Nat) (C D:Array Value) (w:World) (j:Nat) (wr:World):Prop where
 row:At wr (w.heap.size+1+1) (u8s (ksr key nonce n size j)).toArray 5
 c:At wr w.heap.size C 26
 d:At wr (w.heap.size+1) D 124
 b:Below w.heap.size w wr
def StRel (key nonce:Lb8) (n:BitVec 32) (size:Nat) (C D:Array Value) (w:World) (vn vl:Value) (wr:World):Prop:=
 ∃ j:Nat,64*j≤size+63∧vn=.int .u32 (V (n+BitVec.ofNat 32 j))∧(∃ a c,vl=.slice a (size - 64*j) c∧(64*j < size→a=some ⟨w.heap.size+1+1,64*j,none⟩∧c=size - 64*j))∧CSInv key nonce n size C D w j wr
theorem stream_good (key nonce:Lb8) (n:BitVec 32) (size:Nat) (lk:key.length=32) (ln:nonce.length=12) (hz:size≤1048576) (w:World) (hL:CTabs w) :
 Calls Tryz.prog 101 #[.agg (u8s key).toArray,.agg (u8s nonce).toArray,.int .u32 (V n),.int .i64 (size:Int)] w (SEnd w (cstream key nonce n size)):=by
 obtain ⟨X,hX⟩:∃ X,X=CZ64:=⟨_,rfl⟩
 have hx:=czero64
 rw [←hX] at hx
 have hXs:X.size=64:=by rw [hX];simp [CZ64,u8s]
 have hbl:=fun (m:BitVec 32) wx (h:Below w.heap.size w wx)=>blk_any key nonce m lk ln wx (hL.below h (Nat.le_refl _))
 obtain ⟨C,hC⟩:∃ C,C=(u8s key).toArray:=⟨_,rfl⟩
 obtain ⟨D,hD⟩:∃ D,D=(u8s nonce).toArray:=⟨_,rfl⟩
 have hCs:C.size=32:=by rw [hC];simp [u8s,lk]
 have hDs:D.size=12:=by rw [hD];simp [u8s,ln]
 rw [←hC,←hD] at hbl
 rw [←hC,←hD]
 obtain ⟨i8,hi8,hz8,hs8,hb8⟩:=info_parts infoU8
 have h0:¬ (size:Int) < 0:=by omega
 have h1:¬ (1048576:Int) < (size:Int):=by omega
 have aC:At ((w.alloc (.cells C 26)).alloc (.cells D 124)) w.heap.size C 26:=(at_new w C _).alloc _
 have aD:At ((w.alloc (.cells C 26)).alloc (.cells D 124)) (w.heap.size+1) D 124:=by
  have h:=at_new (w.alloc (.cells C 26)) D 124
  simpa using h
 have aB:Below w.heap.size w ((w.alloc (.cells C 26)).alloc (.cells D 124)):=((Below.refl _ _).alloc (Nat.le_refl _) _).alloc (by simp) _
 have BL:=zh hbl;have XS:=zh hXs;have CS:=zh hCs;have DS:=zh hDs;have I8:=zh hi8;have Z8:=zh hz8;have S8:=zh hs8;have B8':=zh hb8;have AC:=zh aC;have AD:=zh aD;have AB:=zh aB
 clear hbl hXs hCs hDs hi8 hz8 hs8 hb8 aC aD aB hX hC hD lk ln hL
 go_enter Tryz.func101,Tryz.ntmps101
 go_wp2_with (refine wpList_make_full _ zr _ _ 40 zr ((w.alloc (.cells C 26)).alloc (.cells D 124)).heap.size 5 i8 (.int .u8 0) 1 Tryz.underlying40 I8.out Z8.out S8.out .i64 .i64 _ _ size zr zr rfl rfl (by rw [B8'.out];omega) (by simp [maxLen];omega) (Nat.le_refl _) ?_;intro w4 ho4 hg4;have O4:=zh ho4;have G4:=zh hg4;clear ho4 hg4)
 have row0:At w4 (w.heap.size+1+1) (u8s (ksr key nonce n size 0)).toArray 5:=by
  rw [ksr_zero]
  have h:=own_full O4.out
  rw [made_zeros] at h
  simpa using h
 have key0:∀ b E t,At ((w.alloc (.cells C 26)).alloc (.cells D 124)) b E t→At w4 b E t:=fun b E t h=>by
  have hl:=h.lt
  unfold At at *
  rw [G4.out.block b hl (by simp)];exact h
 have b40:Below w.heap.size w w4:=AB.out.grown G4.out AB.out.size (fun _ h=>by cases h)
 have I0:Hid (CSInv key nonce n size C D w 0 w4):=⟨row0,key0 _ _ _ AC.out,key0 _ _ _ AD.out,b40⟩
 have N0:Hid (V n=V (n+BitVec.ofNat 32 0)):=by show V n=V (n+BitVec.ofNat 32 0);simp
 clear row0 key0 b40 O4 G4 I8 Z8 S8 B8' AC AD AB h0 h1
 generalize ((w.alloc (.cells C 26)).alloc (.cells D 124)).heap.size=bx at *
 go_loopw [2,10,11] (fun vn vl _ wr=>StRel key nonce n size C D w vn vl wr) (fun _ vl _ _=>(match vl with | .slice _ l _=>l | _=>0))
 case atStart=>exact ⟨0,by omega,by rw [N0.out],⟨some ⟨w.heap.size+1+1,0,none⟩,size,by simp,fun _=>⟨by simp,by simp⟩⟩,I0.out⟩
 case round=>
  clear I0 N0
  obtain ⟨j,hj,rfl,⟨al,cl,rfl,hal⟩,hI⟩:=hrel
  obtain ⟨q,hq⟩:∃ q,q=size - 64*j:=⟨_,rfl⟩
  rw [←hq] at hal ⊢
  by_cases hlt:64*j < size
  ·obtain ⟨rfl,hcq⟩:=hal hlt
   rw [hcq]
   clear hcq
   have hq0:(q:Int) > 0:=by omega
   obtain ⟨k,hk⟩:∃ k,k=min 64 (size - 64*j):=⟨_,rfl⟩
   have hsp:=ksr_splice key nonce n size j hlt
   rw [←hk] at hsp
   have hkq:k≤q:=by omega
   have hk64:k=min 64 q:=by omega
   obtain ⟨N,hN⟩:∃ N,N=n+BitVec.ofNat 32 j:=⟨_,rfl⟩
   have hN2:(V N+1) % (4294967296:Int)=V (n+BitVec.ofNat 32 (j+1)):=by rw [hN];exact V_up n j
   have hjo:=BL.out N
   rw [←hN] at hsp ⊢
   obtain ⟨T,hT⟩:∃ T,T=cblk key nonce N:=⟨_,rfl⟩
   have hTl:T.length=64:=by rw [hT];exact cblk_length _ _ _
   unfold cbOf at hjo
   rw [←hT] at hjo hsp
   obtain ⟨F,hF⟩:∃ F,F=(u8s T).toArray:=⟨_,rfl⟩
   have hFs:F.size=64:=by rw [hF];simp [u8s,hTl]
   have hFo:F.all (·.oneCell')=true:=by rw [hF];exact u8s_one _
   rw [←hF] at hjo
   have hrs:(u8s (ksr key nonce n size j)).toArray.size=size:=by simp [u8s,ksr_length]
   have II:=zh hI;have SP:=zh hsp;have JJ:=zh hjo;have N2:=zh hN2;have TL:=zh hTl;have HF:=zh hF;have FS:=zh hFs;have FO:=zh hFo;have HK:=zh hk64;have KQ:=zh hkq;have RS:=zh hrs;have HQ:=zh hq
   clear hI hsp hjo hN2 hTl hF hFs hFo hk64 hkq hk hrs hT hN hal hq
   go_wp2_with (first
    | (refine wpList_load_all zr 26 _ zr w.heap.size zr _ Tryz.underlying26 zr C _ II.out.c (by rw [CS.out];exact info32b) ?_)
    | (refine wpList_load_all zr 124 _ zr (w.heap.size+1) zr _ Tryz.underlying124 zr D _ II.out.d (by rw [DS.out];exact info12) ?_)
    | (go_at_call 116;refine (JJ.out _ II.out.b).mono ?_;rintro e w5 ⟨rfl,hb5⟩;have R5:=zh (II.out.row.below hb5 II.out.row.lt);have C5:=zh (II.out.c.below hb5 II.out.c.lt);have D5:=zh (II.out.d.below hb5 II.out.d.lt);have B5:=zh (II.out.b.trans (hb5.mono II.out.b.size));clear hb5)
    | (refine wpList_store_new zr 148 _ _ zr zr F _ _ zr zr (by rw [FS.out];exact cinfo64) (by rw [FS.out,XS.out]) FO.out ?_;have F6:=zh (at_new w5 F 148);have R6:=zh (R5.out.alloc (.cells F 148));have C6:=zh (C5.out.alloc (.cells F 148));have D6:=zh (D5.out.alloc (.cells F 148));have B6:=zh (B5.out.alloc B5.out.size (.cells F 148));generalize w5.alloc (.cells F 148)=w6 at *;generalize w5.heap.size=bg at *)
    | (refine wpList_copy_sl zr _ _ zr (w.heap.size+1+1) (64*j) q q (.slice (some ⟨bg,0,none⟩) 64 64) T zr zr (at_sl (by have h:=F6.out;rw [HF.out] at h;exact h) TL.out) k (by rw [TL.out];exact HK.out) _ _ R6.out (by have:=HQ.out;have:=KQ.out;rw [RS.out];omega) _ SP.out ?_;intro w7 ha7 hs7 ho7 hbb7;have R7:=zh ha7;have C7:=zh (at_keep C6.out ho7 (by omega));have D7:=zh (at_keep D6.out ho7 (by omega));have B7:=zh (hbb7 _ _ B6.out (by omega));clear ha7 hs7 ho7 hbb7)
    | (refine wpList_slice_low zr _ _ _ zr 5 Tryz.underlying40 infoB (some ⟨w.heap.size+1+1,64*j,none⟩) q q k zr zr KQ.out ?_;intro a8 ha8;have A8:=zh ha8;clear ha8))
   rw [N2.out]
   go_roundw
   case rel=>
    have hq:=HQ.out
    have hk:=HK.out
    refine ⟨j+1,by omega,rfl,⟨a8,q - k,by rw [show size - 64*(j+1)=q - k by omega],fun h=>⟨by rw [A8.out _ _ rfl (by omega),show 64*j+k=64*(j+1) by omega],by omega⟩⟩,R7.out,C7.out,D7.out,B7.out⟩
   case measure=>simp only;have:=HK.out;omega
  ·have hq0:q=0:=by omega
   have hall:=ksr_all key nonce n size j (by omega)
   have hrow:=hI.row
   rw [hall] at hrow
   have hge:¬ (q:Int) > 0:=by omega
   have RW:=zh hrow;have BB:=zh hI.b
   clear hrow hI hall hq0 hal hq hlt
   go_wp2_with fail
   go_ret
   exact ⟨w.heap.size+1+1,by rw [cstream_length];rfl,RW.out,by omega,BB.out⟩
end Sha
end Go.Proofs.YtddjdaocdfkgeaaGreatDoor
namespace Go.Proofs.YtddjdaocdfkgeaaGreatDoor
namespace Sha
open Go.RowKit Mem
structure Kept (E:Foot) (w w':World):Prop where
 size:w.heap.size≤w'.heap.size
 block:∀ k,E k→w'.heap[k]?=w.heap[k]?
section
end
end Sha
end Go.Proofs.YtddjdaocdfkgeaaGreatDoor
namespace Go.Proofs.YtddjdaocdfkgeaaGreatDoor
namespace Sha
open Go.RowKit Mem
theorem blk_laid {b x:Lb8} {n p k:Nat} (hb:b.length=n*256) (hx:x.length=256) (hp:p < n) (hk:k < n):blkOf (laidB b (p*256) x) k=if p=k then x else blkOf b k:=by
 have hpn:p*256+256≤n*256:=by omega
 have hkn:k*256+256≤n*256:=by omega
 by_cases h:p=k
 ·rw [if_pos h,blkOf,laidB,←h,List.append_assoc,List.drop_left' (by simp;omega),List.take_left' hx]
 ·rw [if_neg h]
  apply List.ext_getElem?
  intro i
  unfold blkOf laidB
  rw [List.getElem?_take,List.getElem?_take]
  by_cases hi:i < 256
  ·rw [if_pos hi,if_pos hi,List.getElem?_drop,List.getElem?_drop]
   by_cases hlt:k*256+i < p*256
   ·rw [List.append_assoc,List.getElem?_append_left (by simp;omega),List.getElem?_take,if_pos hlt]
   ·have hge:p*256+256≤k*256+i:=by omega
    have e1:(List.take (p*256) b++x).length=p*256+256:=by simp [hx];omega
    rw [List.getElem?_append_right (by rw [e1];exact hge),e1,List.getElem?_drop,hx]
    congr 1
    omega
  ·rw [if_neg hi,if_neg hi]
theorem readTo_flush {n k:Nat} {l:List (Nat × Lb8)} {b:Lb8} (h:WfP n l) (hb:b.length=n*256) (hk:k < n):∀ j,j≤l.length→blkOf (flushTo l b j) k=readTo k (blkOf b k) l j
 | 0,_=>rfl
 | j+1,hj=>by
  obtain ⟨h1,h2⟩:=h j (by omega)
  rw [flushTo,readTo,blk_laid (flushTo_length h hb j (by omega)) h2 h1 hk,readTo_flush h hb hk j (by omega)]
def Has (s:St6) (H:Lb8):Prop:=∀ k,k < 8→stRead s k=List.replicate 256 (H.getD k 0)
structure Solo (R:StAcc) (b:Nat) (E:Foot) (w:World) (s:St6) (wr:World):Prop where
 f:∃ F,R F b wr s∧∀ k,F k→w.heap.size≤k∧¬ E k
 e:∀ k,E k→k < wr.heap.size
 b:Below w.heap.size w wr
section
variable {R:StAcc} {b:Nat} {E:Foot} {w wr wx:World} {s s':St6}
theorem Solo.call {P:Program} {f:FuncId} {vs:Array Value} {v:Value} (h:Solo R b E w s wr) (k:∀ F,R F b wr s→Calls P f vs wr fun e w'=>e=.returned v∧StEnd R F b wr s' w') :
 Calls P f vs wr fun e w'=>e=.returned v∧Solo R b E w s' w'∧Kept E wr w':=by
 obtain ⟨F,h1,h2⟩:=h.f
 have hb:=h.b.size
 refine (k F h1).mono ?_
 rintro e w' ⟨rfl,hs⟩
 obtain ⟨⟨F',h3,h4⟩,h5⟩:=hs
 exact ⟨rfl,⟨⟨F',h3,fun y hy=>(h4 y hy).elim (h2 y) (fun hw=>⟨by omega,fun he=>by have:=h.e y he;omega⟩)⟩,fun y hy=>Nat.lt_of_lt_of_le (h.e y hy) h5.size,h5.below h.b (fun y hy=>(h2 y hy).1) hb⟩,⟨h5.size,fun y hy=>h5.block y (h.e y hy) (fun hF=>(h2 y hF).2 hy)⟩⟩
end
end Sha
end Go.Proofs.YtddjdaocdfkgeaaGreatDoor
