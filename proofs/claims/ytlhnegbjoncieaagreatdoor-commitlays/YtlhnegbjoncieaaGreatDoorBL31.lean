/- My own texts, merged. -/
import Derived.Test.YtlhnegbjoncieaaGreatDoorBL27
import Derived.Test.YtlhnegbjoncieaaGreatDoorBL07
import Derived.Test.YtlhnegbjoncieaaGreatDoorBL01
import Derived.Test.YtlhnegbjoncieaaGreatDoorBL04
import Derived.Test.YtlhnegbjoncieaaGreatDoorBL14
import Derived.Test.YtlhnegbjoncieaaGreatDoorBL28
import Derived.Test.YtlhnegbjoncieaaGreatDoorBL06
set_option maxRecDepth 100000
set_option maxHeartbeats 2000000
namespace Go.Proofs.YtlhnegbjoncieaaGreatDoor
namespace Sha
open Go.RowKit Mem
def ksr (key nonce:Lb8) (n:BitVec 32) (size j:Nat):Lb8:=(cblks key nonce n j).take size++List.replicate (size - 64*j) 0
theorem ksr_length (key nonce:Lb8) (n:BitVec 32) (size j:Nat):(ksr key nonce n size j).length=size:=by
 simp [ksr,cblks_length];omega
theorem ksr_splice (key nonce:Lb8) (n:BitVec 32) (size j:Nat) (h:64*j < size) :
 Mem.splice (u8s (ksr key nonce n size j)).toArray (64*j) (u8s ((cblk key nonce (n+BitVec.ofNat 32 j)).take (min 64 (size - 64*j))))=(u8s (ksr key nonce n size (j+1))).toArray:=by
 have e0:ksr key nonce n size j=cblks key nonce n j++List.replicate (size - 64*j) 0:=by
  rw [ksr,List.take_of_length_le (by rw [cblks_length];omega)]
 have lb:=cblks_length key nonce n j
 have lk:=cblk_length key nonce (n+BitVec.ofNat 32 j)
 have e1:ksr key nonce n size (j+1)=cblks key nonce n j++(cblk key nonce (n+BitVec.ofNat 32 j)).take (min 64 (size - 64*j))++List.replicate (size - 64*j - min 64 (size - 64*j)) 0:=by
  rw [ksr,cblks,List.take_append,lb,List.take_of_length_le (by omega)]
  congr 2
  ·by_cases h32:64≤size - 64*j
   ·rw [Nat.min_eq_left h32,List.take_of_length_le (by omega),List.take_of_length_le (by omega)]
   ·rw [Nat.min_eq_right (by omega)]
  ·omega
 rw [e0,e1]
 unfold Mem.splice u8s
 rw [List.map_append,List.map_append,List.map_append]
 have h1:(List.map (fun x:BitVec 8=>Value.int .u8 (x.toNat:Int)) (cblks key nonce n j)).length=64*j:=by simp [lb]
 congr 1
 rw [List.take_left' h1]
 congr 1
 rw [List.length_map,List.length_take,lk,List.drop_append,h1,List.drop_of_length_le (by omega),List.nil_append,←List.map_drop,List.drop_replicate]
 congr 2
 omega
theorem ksr_zero (key nonce:Lb8) (n:BitVec 32) (size:Nat):ksr key nonce n size 0=List.replicate size 0:=by simp [ksr,cblks]
theorem ksr_all (key nonce:Lb8) (n:BitVec 32) (size j:Nat) (h:size≤64*j):ksr key nonce n size j=cstream key nonce n size:=by
 rw [ksr,cstream_from key nonce n size j h,Nat.sub_eq_zero_of_le h,List.replicate_zero,List.append_nil]
theorem V_up (n:BitVec 32) (j:Nat):(V (n+BitVec.ofNat 32 j)+1) % (4294967296:Int)=V (n+BitVec.ofNat 32 (j+1)):=by
 rw [show (1:Int)=V 1 from rfl,r_add]
 congr 1
 rw [BitVec.add_assoc]
 congr 1
 apply BitVec.eq_of_toNat_eq
 simp
structure CSInv (key nonce:Lb8) (n:BitVec 32) (size:Nat) (C D:Array Value) (w:World) (j:Nat) (wr:World):Prop where
 row:At wr (w.heap.size+1+1) (u8s (ksr key nonce n size j)).toArray 5
 c:At wr w.heap.size C 22
 d:At wr (w.heap.size+1) D 226
 b:Below w.heap.size w wr
def StRel (key nonce:Lb8) (n:BitVec 32) (size:Nat) (C D:Array Value) (w:World) (vn vl:Value) (wr:World):Prop:=
 ∃ j:Nat,64*j≤size+63∧vn=.int .u32 (V (n+BitVec.ofNat 32 j))∧(∃ a c,vl=.slice a (size - 64*j) c∧(64*j < size→a=some ⟨w.heap.size+1+1,64*j,none⟩∧c=size - 64*j))∧CSInv key nonce n size C D w j wr
theorem stream_good (key nonce:Lb8) (n:BitVec 32) (size:Nat) (lk:key.length=32) (ln:nonce.length=12) (hz:size≤1048576) (w:World) (hL:CTabs w) :
 Calls Tryz.prog 168 #[.agg (u8s key).toArray,.agg (u8s nonce).toArray,.int .u32 (V n),.int .i64 (size:Int)] w (SEnd w (cstream key nonce n size)):=by
 obtain ⟨X,hX⟩:∃ X,X=CZ64:=⟨_,rfl⟩
 have hx:=czero64
 rw [←hX] at hx
 have hXs:X.size=64:=by rw [hX];simp [CZ64,u8s]
 have hbl:=fun (m:BitVec 32) wx (h:Below w.heap.size w wx)=>blk_any key nonce m lk ln wx (hL.below h (Nat.le_refl _))
 obtain ⟨C,hC⟩:∃ C,C=(u8s key).toArray:=⟨_,rfl⟩
 obtain ⟨D,hD⟩:∃ D,D=(u8s nonce).toArray:=⟨_,rfl⟩
 have hCs:C.size=32:=by rw [hC];simp [u8s,lk]
 have hDs:D.size=12:=by rw [hD];simp [u8s,ln]
 rw [←hC,←hD] at hbl
 rw [←hC,←hD]
 obtain ⟨i8,hi8,hz8,hs8,hb8⟩:=info_parts infoU8
 have h0:¬ (size:Int) < 0:=by omega
 have h1:¬ (1048576:Int) < (size:Int):=by omega
 have aC:At ((w.alloc (.cells C 22)).alloc (.cells D 226)) w.heap.size C 22:=(at_new w C _).alloc _
 have aD:At ((w.alloc (.cells C 22)).alloc (.cells D 226)) (w.heap.size+1) D 226:=by
  have h:=at_new (w.alloc (.cells C 22)) D 226
  simpa using h
 have aB:Below w.heap.size w ((w.alloc (.cells C 22)).alloc (.cells D 226)):=((Below.refl _ _).alloc (Nat.le_refl _) _).alloc (by simp) _
 have BL:=zh hbl;have XS:=zh hXs;have CS:=zh hCs;have DS:=zh hDs;have I8:=zh hi8;have Z8:=zh hz8;have S8:=zh hs8;have B8':=zh hb8;have AC:=zh aC;have AD:=zh aD;have AB:=zh aB
 clear hbl hXs hCs hDs hi8 hz8 hs8 hb8 aC aD aB hX hC hD lk ln hL
 go_enter Tryz.func168,Tryz.ntmps168
 go_wp2_with (refine wpList_make_full _ zr _ _ 31 zr ((w.alloc (.cells C 22)).alloc (.cells D 226)).heap.size 5 i8 (.int .u8 0) 1 Tryz.underlying31 I8.out Z8.out S8.out .i64 .i64 _ _ size zr zr rfl rfl (by rw [B8'.out];omega) (by simp [maxLen];omega) (Nat.le_refl _) ?_;intro w4 ho4 hg4;have O4:=zh ho4;have G4:=zh hg4;clear ho4 hg4)
 have row0:At w4 (w.heap.size+1+1) (u8s (ksr key nonce n size 0)).toArray 5:=by
  rw [ksr_zero]
  have h:=own_full O4.out
  rw [made_zeros] at h
  simpa using h
 have key0:∀ b E t,At ((w.alloc (.cells C 22)).alloc (.cells D 226)) b E t→At w4 b E t:=fun b E t h=>by
  have hl:=h.lt
  unfold At at *
  rw [G4.out.block b hl (by simp)];exact h
 have b40:Below w.heap.size w w4:=AB.out.grown G4.out AB.out.size (fun _ h=>by cases h)
 have I0:Hid (CSInv key nonce n size C D w 0 w4):=⟨row0,key0 _ _ _ AC.out,key0 _ _ _ AD.out,b40⟩
 have N0:Hid (V n=V (n+BitVec.ofNat 32 0)):=by show V n=V (n+BitVec.ofNat 32 0);simp
 clear row0 key0 b40 O4 G4 I8 Z8 S8 B8' AC AD AB h0 h1
 generalize ((w.alloc (.cells C 22)).alloc (.cells D 226)).heap.size=bx at *
 go_loopw [2,10,11] (fun vn vl _ wr=>StRel key nonce n size C D w vn vl wr) (fun _ vl _ _=>(match vl with | .slice _ l _=>l | _=>0))
 case atStart=>exact ⟨0,by omega,by rw [N0.out],⟨some ⟨w.heap.size+1+1,0,none⟩,size,by simp,fun _=>⟨by simp,by simp⟩⟩,I0.out⟩
 case round=>
  clear I0 N0
  obtain ⟨j,hj,rfl,⟨al,cl,rfl,hal⟩,hI⟩:=hrel
  obtain ⟨q,hq⟩:∃ q,q=size - 64*j:=⟨_,rfl⟩
  rw [←hq] at hal ⊢
  by_cases hlt:64*j < size
  ·obtain ⟨rfl,hcq⟩:=hal hlt
   rw [hcq]
   clear hcq
   have hq0:(q:Int) > 0:=by omega
   obtain ⟨k,hk⟩:∃ k,k=min 64 (size - 64*j):=⟨_,rfl⟩
   have hsp:=ksr_splice key nonce n size j hlt
   rw [←hk] at hsp
   have hkq:k≤q:=by omega
   have hk64:k=min 64 q:=by omega
   obtain ⟨N,hN⟩:∃ N,N=n+BitVec.ofNat 32 j:=⟨_,rfl⟩
   have hN2:(V N+1) % (4294967296:Int)=V (n+BitVec.ofNat 32 (j+1)):=by rw [hN];exact V_up n j
   have hjo:=BL.out N
   rw [←hN] at hsp ⊢
   obtain ⟨T,hT⟩:∃ T,T=cblk key nonce N:=⟨_,rfl⟩
   have hTl:T.length=64:=by rw [hT];exact cblk_length _ _ _
   unfold cbOf at hjo
   rw [←hT] at hjo hsp
   obtain ⟨F,hF⟩:∃ F,F=(u8s T).toArray:=⟨_,rfl⟩
   have hFs:F.size=64:=by rw [hF];simp [u8s,hTl]
   have hFo:F.all (·.oneCell')=true:=by rw [hF];exact u8s_one _
   rw [←hF] at hjo
   have hrs:(u8s (ksr key nonce n size j)).toArray.size=size:=by simp [u8s,ksr_length]
   have II:=zh hI;have SP:=zh hsp;have JJ:=zh hjo;have N2:=zh hN2;have TL:=zh hTl;have HF:=zh hF;have FS:=zh hFs;have FO:=zh hFo;have HK:=zh hk64;have KQ:=zh hkq;have RS:=zh hrs;have HQ:=zh hq
   clear hI hsp hjo hN2 hTl hF hFs hFo hk64 hkq hk hrs hT hN hal hq
   go_wp2_with (first
    | (refine wpList_load_all zr 22 _ zr w.heap.size zr _ Tryz.underlying22 zr C _ II.out.c (by rw [CS.out];exact info32b) ?_)
    | (refine wpList_load_all zr 226 _ zr (w.heap.size+1) zr _ Tryz.underlying226 zr D _ II.out.d (by rw [DS.out];exact info12) ?_)
    | (go_at_call 188;refine (JJ.out _ II.out.b).mono ?_;rintro e w5 ⟨rfl,hb5⟩;have R5:=zh (II.out.row.below hb5 II.out.row.lt);have C5:=zh (II.out.c.below hb5 II.out.c.lt);have D5:=zh (II.out.d.below hb5 II.out.d.lt);have B5:=zh (II.out.b.trans (hb5.mono II.out.b.size));clear hb5)
    | (refine wpList_store_new zr 243 _ _ zr zr F _ _ zr zr (by rw [FS.out];exact cinfo64) (by rw [FS.out,XS.out]) FO.out ?_;have F6:=zh (at_new w5 F 243);have R6:=zh (R5.out.alloc (.cells F 243));have C6:=zh (C5.out.alloc (.cells F 243));have D6:=zh (D5.out.alloc (.cells F 243));have B6:=zh (B5.out.alloc B5.out.size (.cells F 243));generalize w5.alloc (.cells F 243)=w6 at *;generalize w5.heap.size=bg at *)
    | (refine wpList_copy_sl zr _ _ zr (w.heap.size+1+1) (64*j) q q (.slice (some ⟨bg,0,none⟩) 64 64) T zr zr (at_sl (by have h:=F6.out;rw [HF.out] at h;exact h) TL.out) k (by rw [TL.out];exact HK.out) _ _ R6.out (by have:=HQ.out;have:=KQ.out;rw [RS.out];omega) _ SP.out ?_;intro w7 ha7 hs7 ho7 hbb7;have R7:=zh ha7;have C7:=zh (at_keep C6.out ho7 (by omega));have D7:=zh (at_keep D6.out ho7 (by omega));have B7:=zh (hbb7 _ _ B6.out (by omega));clear ha7 hs7 ho7 hbb7)
    | (refine wpList_slice_low zr _ _ _ zr 5 Tryz.underlying31 infoB (some ⟨w.heap.size+1+1,64*j,none⟩) q q k zr zr KQ.out ?_;intro a8 ha8;have A8:=zh ha8;clear ha8))
   rw [N2.out]
   go_roundw
   case rel=>
    have hq:=HQ.out
    have hk:=HK.out
    refine ⟨j+1,by omega,rfl,⟨a8,q - k,by rw [show size - 64*(j+1)=q - k by omega],fun h=>⟨by rw [A8.out _ _ rfl (by omega),show 64*j+k=64*(j+1) by omega],by omega⟩⟩,R7.out,C7.out,D7.out,B7.out⟩
   case measure=>simp only;have:=HK.out;omega
  ·have hq0:q=0:=by omega
   have hall:=ksr_all key nonce n size j (by omega)
   have hrow:=hI.row
   rw [hall] at hrow
   have hge:¬ (q:Int) > 0:=by omega
   have RW:=zh hrow;have BB:=zh hI.b
   clear hrow hI hall hq0 hal hq hlt
   go_wp2_with fail
   go_ret
   exact ⟨w.heap.size+1+1,by rw [cstream_length];rfl,RW.out,by omega,BB.out⟩
theorem cturn_joinB (b s:Lb8) (h:b.length=s.length):cturn b s=joinB b s:=by
 rw [cturn,←h,List.drop_length,List.append_nil];rfl
theorem splice_full (l:Lb8) (n:Nat) (h:l.length=n):Mem.splice (u8s (List.replicate n 0)).toArray 0 (u8s (l.take n))=(u8s l).toArray:=by
 subst h
 rw [List.take_length]
 have h1:List.drop (0+(u8s l).length) (u8s (List.replicate l.length 0)).toArray.toList=[]:=List.drop_of_length_le (by simp [u8s])
 unfold Mem.splice
 rw [h1,List.take_zero,List.nil_append,List.append_nil]
theorem two_made {w w4:World} {C D:Array Value} {m:Nat} (ho:w4.ownsRow ((w.alloc (.cells C 22)).alloc (.cells D 226)).heap.size 5 1 (.slice (some ⟨((w.alloc (.cells C 22)).alloc (.cells D 226)).heap.size,0,none⟩) m m) m (madeCells (Value.int .u8 0).cells (m*1)).toList)
 (hg:World.grownBy ((w.alloc (.cells C 22)).alloc (.cells D 226)) w4 none) :
 At w4 (w.heap.size+1+1) (u8s (List.replicate m 0)).toArray 5∧At w4 w.heap.size C 22∧At w4 (w.heap.size+1) D 226∧Below w.heap.size w w4:=by
 have aC:At ((w.alloc (.cells C 22)).alloc (.cells D 226)) w.heap.size C 22:=(at_new w C _).alloc _
 have aD:At ((w.alloc (.cells C 22)).alloc (.cells D 226)) (w.heap.size+1) D 226:=by
  have h:=at_new (w.alloc (.cells C 22)) D 226
  simpa using h
 have aB:Below w.heap.size w ((w.alloc (.cells C 22)).alloc (.cells D 226)):=((Below.refl _ _).alloc (Nat.le_refl _) _).alloc (by simp) _
 have key0:∀ b E t,At ((w.alloc (.cells C 22)).alloc (.cells D 226)) b E t→At w4 b E t:=fun b E t h=>by
  have hl:=h.lt
  unfold At at *
  rw [hg.block b hl (by simp)];exact h
 refine ⟨?_,key0 _ _ _ aC,key0 _ _ _ aD,aB.grown hg aB.size (fun _ h=>by cases h)⟩
 have h:=own_full ho
 rw [made_zeros] at h
 simpa using h
structure TuInv (L s:Lb8) (g:Nat) (w wr:World):Prop where
 row:At wr (w.heap.size+1+1) (u8s L).toArray 5
 st:At wr g (u8s s).toArray 5
 b:Below w.heap.size w wr
theorem turned_any (key nonce:Lb8) (n:BitVec 32) (l:Lb8) (v:Value) (lk:key.length=32) (ln:nonce.length=12) (hz:l.length≤1048576) (w:World) (hv:Sl w v l) (hL:CTabs w) :
 Calls Tryz.prog 140 #[.agg (u8s key).toArray,.agg (u8s nonce).toArray,.int .u32 (V n),v] w (SEnd w (cturn l (cstream key nonce n l.length))):=by
 have hst:=fun wx (h:Below w.heap.size w wx)=>stream_good key nonce n l.length lk ln hz wx (hL.below h (Nat.le_refl _))
 obtain ⟨s,hs⟩:∃ s,s=cstream key nonce n l.length:=⟨_,rfl⟩
 have ls:s.length=l.length:=by rw [hs];exact cstream_length _ _ _ _
 rw [←hs] at hst ⊢
 rw [cturn_joinB l s ls.symm]
 have hv0:=hv
 obtain ⟨a0,cap,rfl,_,_⟩:=hv
 have hsp:=splice_full l l.length rfl
 have jl:=joinTo_length l s ls.symm
 have jz:=joinTo_zero l s
 have ja:=joinTo_all l s ls.symm
 have jg:=fun j hj=>joinTo_get l s ls.symm j hj
 have js:=fun j hj=>joinTo_set l s ls.symm j hj
 have jB:=joinB_length l s ls.symm
 obtain ⟨m,hm⟩:∃ m,m=l.length:=⟨_,rfl⟩
 rw [←hm] at hst hsp jl ja jg js jB ls hz hv0 ⊢
 have hmin:min (m:Int) 1048576=(m:Int):=by omega
 have hmle:(m:Int)≤1048576:=by omega
 have hmlt:¬ (1048576:Int) < (m:Int):=by omega
 obtain ⟨C,hC⟩:∃ C,C=(u8s key).toArray:=⟨_,rfl⟩
 obtain ⟨D,hD⟩:∃ D,D=(u8s nonce).toArray:=⟨_,rfl⟩
 have hCs:C.size=32:=by rw [hC];simp [u8s,lk]
 have hDs:D.size=12:=by rw [hD];simp [u8s,ln]
 rw [←hC,←hD] at hst
 rw [←hC,←hD]
 obtain ⟨i8,hi8,hz8,hs8,hb8⟩:=info_parts infoU8
 have ST:=zh hst;have CS:=zh hCs;have DS:=zh hDs;have I8:=zh hi8;have Z8:=zh hz8;have S8:=zh hs8;have B8':=zh hb8;have HV:=zh hv0;have SP:=zh hsp
 have JL:=zh jl;have JZ:=zh jz;have JA:=zh ja;have JG:=zh jg;have JS:=zh js;have JB:=zh jB;have LS:=zh ls;have HM:=zh hm
 clear hst hCs hDs hi8 hz8 hs8 hb8 hC hD lk ln hL hv0 hsp jl jz ja jg js jB ls hm hs
 go_enter Tryz.func140,Tryz.ntmps140
 go_wp2_with (first
  | (refine wpList_make_full _ zr _ _ 31 zr ((w.alloc (.cells C 22)).alloc (.cells D 226)).heap.size 5 i8 (.int .u8 0) 1 Tryz.underlying31 I8.out Z8.out S8.out .i64 .i64 _ _ m zr zr rfl rfl (by rw [B8'.out];omega) (by simp [maxLen];omega) (Nat.le_refl _) ?_;intro w4 ho4 hg4;have hf:=two_made ho4 hg4;have R4:=zh hf.1;have C4:=zh hf.2.1;have D4:=zh hf.2.2.1;have B4:=zh hf.2.2.2;clear ho4 hg4 hf)
  | (refine wpList_copy_sl zr _ _ zr (w.heap.size+1+1) 0 m m (.slice a0 m cap) l zr zr (HV.out.below B4.out) m (by rw [←HM.out];exact (Nat.min_self m).symm) _ _ R4.out (by simp [u8s]) _ SP.out ?_;intro w5 ha5 hs5 ho5 hbb5;have R5:=zh ha5;have C5:=zh (at_keep C4.out ho5 (by omega));have D5:=zh (at_keep D4.out ho5 (by omega));have B5:=zh (hbb5 _ _ B4.out (by omega));clear ha5 hs5 ho5 hbb5)
  | (refine wpList_load_all zr 22 _ zr w.heap.size zr _ Tryz.underlying22 zr C _ C5.out (by rw [CS.out];exact info32b) ?_)
  | (refine wpList_load_all zr 226 _ zr (w.heap.size+1) zr _ Tryz.underlying226 zr D _ D5.out (by rw [DS.out];exact info12) ?_))
 refine (ST.out _ B5.out).mono ?_
 rintro e w6 ⟨g,rfl,hg6,hgl,hb6⟩
 rw [LS.out]
 have I6:Hid (TuInv (joinTo l s 0) s g w w6):=⟨by rw [JZ.out];exact R5.out.below hb6 R5.out.lt,hg6,B5.out.trans (hb6.mono B5.out.size)⟩
 have GNE:Hid (w.heap.size+1+1≠g):=by have:=R5.out.lt;show w.heap.size+1+1≠g;omega
 have GLE:Hid (w.heap.size≤g):=Nat.le_trans B5.out.size hgl
 clear hg6 hgl hb6 R4 C4 D4 B4 R5 C5 D5 B5 ST HV SP
 go_wp2_with fail
 go_loopw [10,11,26] (fun _ _ i wr=>∃ j:Nat,j≤m∧i=.int .i64 j∧TuInv (joinTo l s j) s g w wr) (fun _ _ i _=>m - (intOf i).toNat)
 case atStart=>exact ⟨0,by omega,rfl,I6.out⟩
 case round=>
  clear I6
  obtain ⟨j,hj,rfl,hI⟩:=hrel
  by_cases hlt:j < m
  ·obtain ⟨x,hxx⟩:∃ x,x=l.getD j 0:=⟨_,rfl⟩
   obtain ⟨y,hyy⟩:∃ y,y=s.getD j 0:=⟨_,rfl⟩
   have cj:wr.cell? ⟨w.heap.size+1+1,j,none⟩=some (.int .u8 (B8 x)):=by
    rw [hI.row.cell,List.getElem?_toArray,u8s_get _ _ (by rw [JL.out];exact hlt),JG.out j hlt,hxx];rfl
   have dj:wr.cell? ⟨g,j,none⟩=some (.int .u8 (B8 y)):=by
    rw [hI.st.cell,List.getElem?_toArray,u8s_get _ _ (by rw [LS.out];exact hlt),hyy];rfl
   have hset:(u8s (joinTo l s j)).toArray.setIfInBounds j (.int .u8 (B8 (x ^^^ y)))=(u8s (joinTo l s (j+1))).toArray:=by
    rw [←JS.out j hlt,←hxx,←hyy];exact u8s_set _ _ _
   have hEs:j < (u8s (joinTo l s j)).toArray.size:=by rw [List.size_toArray,u8s_length,JL.out];exact hlt
   have hk:=hI.row
   obtain ⟨E,hE⟩:∃ E,E=(u8s (joinTo l s j)).toArray:=⟨_,rfl⟩
   rw [←hE] at hk hset hEs
   have KK:=zh hk;have ST:=zh hset;have DS:=zh hEs;have SS:=zh hI.st;have BB:=zh hI.b
   have hlt':(j:Int) < (m:Int):=by omega
   clear hk hset hEs hI hE hxx hyy
   go_wp2_with (refine Mem.wpList_store_one zr 5 _ _ zr zr (w.heap.size+1+1) j (.int .u8 (B8 (x ^^^ y))) zr (by exact congrArg (Value.int .u8) (B8_xor x y)) zr infoB _ _ KK.out DS.out ?_;intro w7 a7 o7 b7;have K7:=zh a7;have S7:=zh (at_keep SS.out o7 (Ne.symm GNE.out));have B7:=zh (b7 _ _ BB.out (by omega));clear a7 o7 b7)
   go_roundw
   case rel=>exact ⟨j+1,by omega,by go_num,by rw [←ST.out];exact K7.out,S7.out,B7.out⟩
   case measure=>simp [intOf];omega
  ·have hjm:j=m:=by omega
   have hge:¬ (j:Int) < (m:Int):=by omega
   rw [hjm,JA.out] at hI
   have II:=zh hI
   clear hI hjm hlt hj
   go_wp2_with fail
   go_ret
   exact ⟨w.heap.size+1+1,by rw [JB.out];rfl,II.out.row,by omega,II.out.b⟩
end Sha
end Go.Proofs.YtlhnegbjoncieaaGreatDoor
namespace Go.Proofs.YtlhnegbjoncieaaGreatDoor
namespace Mem
open Go.RowKit
theorem OwnV.set {w:World} {B:Nat} {e:TypeId} {v:Value} {xs:List Value} (h:OwnV w B e v xs) (i:Nat) (u:Value) (hi:i < xs.length) :
 ∃ g cap C,v=.slice (some ⟨g,0,none⟩) xs.length cap∧B≤g∧At w g C e∧i < C.size∧∀ w',At w' g (C.setIfInBounds i u) e→OwnV w' B e v (xs.set i u):=by
 obtain ⟨_,h | ⟨g,cap,cur,rfl,hg,hh,hn,hc,hs,ht⟩⟩:=h
 ·obtain ⟨_,h0⟩:=h
  omega
 ·refine ⟨g,cap,cur,rfl,hg,hh,by rw [hs];omega,fun w' hw'=>⟨by simp,.inr ⟨g,cap,cur.setIfInBounds i u,by rw [List.length_set],hg,hw',by rw [List.length_set];exact hn,hc,by rw [Array.size_setIfInBounds];exact hs,?_⟩⟩⟩
  rw [List.length_set,Array.toList_setIfInBounds,List.take_set,ht]
end Mem
namespace Sha
open Go.RowKit Mem
end Sha
end Go.Proofs.YtlhnegbjoncieaaGreatDoor
namespace Go.Proofs.YtlhnegbjoncieaaGreatDoor
namespace Sha
open Go.RowKit Mem
theorem conv_i64u (z:Int) (bb:BitVec 64) (hb:bb=BitVec.ofNat 64 z.toNat) (h0:0≤z) (h1:z≤9223372036854775807) (w:World):(convert 3 190 (.int .i64 z)).run Tryz.prog w=.ok (.int .u64 (bb.toNat:Int)) w:=by
 have e:(bb.toNat:Int)=z:=by rw [hb,BitVec.toNat_ofNat];omega
 rw [e]
 have h2:IntKind.u64.wrap z=z:=by rw [IntKind.wrap_u64];omega
 go_simp
def sealL (key:Lb8) (ep:BitVec 32) (block:Int) (page:Lb8):Lb8:=cturn page (cstream key (cnonce ep (BitVec.ofNat 64 block.toNat)) 0 page.length)
theorem sealL_length (key:Lb8) (ep:BitVec 32) (block:Int) (page:Lb8):(sealL key ep block page).length=page.length:=cturn_length _ _ (by rw [cstream_length];exact Nat.le_refl _)
theorem sealL_back (key:Lb8) (ep:BitVec 32) (block:Int) (page:Lb8):sealL key ep block (sealL key ep block page)=page:=by
 show cturn (sealL key ep block page) (cstream key _ 0 (sealL key ep block page).length)=page
 rw [sealL_length]
 exact cturn_back _ _ (by rw [cstream_length];exact Nat.le_refl _)
def sealBad (block:Int) (page:Lb8):Bool:=decide (page.length≠256∨block < 0)
def sealR (key:Lb8) (ep:BitVec 32) (block:Int) (page:Lb8):Lb8 × Int:=if sealBad block page then ([],1) else (sealL key ep block page,0)
def hideR (key:Lb8) (ep:BitVec 32) (place block:Int) (page:Lb8):Lb8 × RefV × Int:=
 if sealBad block page || decide (place < 0∨1 < place) then ([],zref,1) else (sealL key ep block page,⟨place,ep,digestOf (sealL key ep block page)⟩,0)
def openR (key:Lb8) (r:RefV) (block:Int) (x:Lb8):Lb8 × Int:=
 if sealBad block x then ([],1) else if digestOf x≠r.dg then ([],9) else (sealL key r.ep block x,0)
theorem wf_dig (place:Int) (ep:BitVec 32) (l:Lb8) (h0:0≤place) (h1:place≤1):RefV.Wf ⟨place,ep,digestOf l⟩:=by
 have hd:=digestOf_length l
 generalize digestOf l=D at *
 exact ⟨by show _≤place;omega,by show place≤_;omega,hd⟩
theorem hideR_wf (key:Lb8) (ep:BitVec 32) (place block:Int) (page:Lb8):(hideR key ep place block page).2.1.Wf:=by
 unfold hideR
 split
 ·exact zref_wf
 ·rename_i h
  simp at h
  exact wf_dig place ep _ (by omega) (by omega)
end Sha
end Go.Proofs.YtlhnegbjoncieaaGreatDoor
