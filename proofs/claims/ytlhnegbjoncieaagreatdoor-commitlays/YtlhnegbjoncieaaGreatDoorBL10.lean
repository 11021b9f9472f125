/- What a reader's box is, and how its methods end. Package pack's small functions. -/
import Derived.Test.YtlhnegbjoncieaaGreatDoorBL05
import Derived.Test.YtlhnegbjoncieaaGreatDoorBL07
import Derived.Laws.BitsAllLaws
import Derived.Lib.SliceRun
set_option maxRecDepth 100000
set_option maxHeartbeats 2000000
namespace Go.Proofs.YtlhnegbjoncieaaGreatDoor
namespace Sha
open Go.RowKit Mem
def fillB (b:Lb8) (size:Nat):Lb8:=b++List.replicate (size - b.length) 0
theorem Sl.but_at {w w':World} {v:Value} {l:Lb8} {br:Nat} {C:Array Value} {t:TypeId} (h:Sl w v l) (hC:At w br C t) (hno:∀ (k:Nat) (x:Int),C[k]?≠some (.int .u8 x)) (hb:But br w w'):Sl w' v l:=by
 obtain ⟨a,cap,rfl,hc,hr⟩:=h
 refine ⟨a,cap,rfl,hc,fun hne=>?_⟩
 obtain ⟨bb,oo,rfl,hlt,hcell⟩:=hr hne
 have h0:0 < l.length:=List.length_pos_iff.2 hne
 have hbn:bb≠br:=by
  rintro rfl
  have h1:=hcell 0 h0
  rw [hC.cell] at h1
  exact hno _ _ h1
 refine ⟨bb,oo,rfl,Nat.lt_of_lt_of_le hlt hb.size,fun i hi=>?_⟩
 rw [World.cell?_of_block (w:=w) (w':=w') (a:=⟨bb,oo+i,none⟩) (hb.block bb hlt hbn)]
 exact hcell i hi
def rdRow (v:Value) (e:Nat):Array Value:=#[v,.int .i64 (e:Int)]
theorem rdRow_no (a:Option Addr) (n cap e:Nat) (k:Nat) (x:Int):(rdRow (.slice a n cap) e)[k]?≠some (.int .u8 x):=by
 unfold rdRow
 match k with
 | 0=>simp
 | 1=>simp
 | k+2=>simp
theorem rdTake_small (b:Lb8) (e n:Nat):(rdTake b e n).x.length≤n∧(rdTake b e n).x.length≤b.length∧(rdTake b e n).b.length≤b.length∧((rdTake b e n).e=e∨(rdTake b e n).e=4):=by
 unfold rdTake
 split
 ·simp
 ·split
  ·simp
  ·simp;omega
abbrev RdAcc:=World→Nat→Lb8→Nat→Prop
structure PkEnd (R:RdAcc) (w:World) (br:Nat) (b:Lb8) (e:Nat) (w':World):Prop where
 r:R w' br b e
 o:But br w w'
 k:∀ B x,Below B x w→B≤br→Below B x w'
abbrev rp (br:Nat):Value:=.pointer (some ⟨br,0,none⟩)
theorem PkEnd.trans {R:RdAcc} {w w1 w2:World} {br:Nat} {b1 b2:Lb8} {e1 e2:Nat} (h:PkEnd R w br b1 e1 w1) (k:PkEnd R w1 br b2 e2 w2):PkEnd R w br b2 e2 w2:=
 ⟨k.r,But.same h.o k.o,fun B x hB hle=>k.k B x (h.k B x hB hle) hle⟩
theorem numSize_any (z:Int) (w:World):Calls Tryz.prog 136 #[.int .i64 z] w fun e w'=>e=.returned (.int .i64 ((cutN z 1 8:Nat):Int))∧w=w':=by
 have hv:=cutN_val z 1 8 (by decide)
 have HV:=zh hv
 clear hv
 go_enter Tryz.func136,Tryz.ntmps136
 go_wp2
 go_ret
 exact ⟨by rw [HV.out];first | rfl | (congr 2;omega),rfl⟩
theorem leN_snoc:∀ (l:Lb8) (x:BitVec 8),leN (l++[x])=leN l+256 ^ l.length*x.toNat
 | [],x=>by simp [leN]
 | y::l,x=>by
  rw [List.cons_append,leN,leN,leN_snoc l x,List.length_cons,Nat.pow_succ,Nat.mul_add]
  have:256*(256 ^ l.length*x.toNat)=256 ^ l.length*256*x.toNat:=by rw [←Nat.mul_assoc,Nat.mul_comm 256]
  omega
theorem leN_take (l:Lb8) (j:Nat) (h:j < l.length):leN (l.take (j+1))=leN (l.take j) ||| (l.getD j 0).toNat*256 ^ j:=by
 have e1:l.take (j+1)=l.take j++[l.getD j 0]:=by
  rw [List.take_succ_eq_append_getElem h];simp [h]
 have e2:(l.take j).length=j:=by rw [List.length_take];omega
 have hlt:=leN_lt (l.take j)
 rw [e2] at hlt
 rw [e1,leN_snoc,e2]
 have h256:256 ^ j=2 ^ (8*j):=by rw [Nat.pow_mul]
 rw [h256] at hlt ⊢
 rw [Nat.or_comm,Nat.mul_comm ((l.getD j 0).toNat),←Nat.two_pow_add_eq_or_of_lt hlt]
 omega
theorem o_shl64 {P:Program} (t t2:TypeId) (x y:Operand) (a:BitVec 8) (j:Nat) (hj:j < 8) (w:World):(do eqGuard .shl t x y (.int .u64 (B8 a)) (.int .i64 (8*(j:Int)));binOp .shl t2 (.int .u64 (B8 a)) (.int .i64 (8*(j:Int))):Sem Value).run P w=.ok (.int .u64 ((a.toNat*256 ^ j:Nat):Int)) w:=by
 have h0:=a.isLt
 have h:j=0∨j=1∨j=2∨j=3∨j=4∨j=5∨j=6∨j=7:=by omega
 unfold B8
 rcases h with rfl | rfl | rfl | rfl | rfl | rfl | rfl | rfl
 all_goals (go_simp;simp [IntKind.wrap,IntKind.bits,IntKind.signed];omega)
theorem o_or64 {P:Program} (t t2:TypeId) (x y:Operand) (a b:Nat) (ha:a < 18446744073709551616) (hb:b < 18446744073709551616) (w:World):(do eqGuard .or t x y (.int .u64 (a:Int)) (.int .u64 (b:Int));binOp .or t2 (.int .u64 (a:Int)) (.int .u64 (b:Int)):Sem Value).run P w=.ok (.int .u64 ((a ||| b:Nat):Int)) w:=by
 rw [←u64_or_nat a b ha hb]
 go_simp
theorem num_any (l:Lb8) (v:Value) (w:World) (bl:l.length≤8) (hv:Sl w v l) :
 Calls Tryz.prog 184 #[v] w fun e w'=>e=.returned (.int .u64 ((leN l:Nat):Int))∧w=w':=by
 have hv0:=hv
 obtain ⟨a0,cap,rfl,_,_⟩:=hv
 obtain ⟨m,hm⟩:∃ m,m=l.length:=⟨_,rfl⟩
 rw [←hm] at bl
 have HV:=zh hv0;have HM:=zh hm
 rw [←hm]
 clear hv0 hm
 go_enter Tryz.func184,Tryz.ntmps184
 go_wp2_with fail
 go_loop [3,8] (fun vn i=>∃ j:Nat,j≤m∧i=.int .i64 j∧vn=.int .u64 ((leN (l.take j):Nat):Int)) (fun _ i=>m - (intOf i).toNat)
 case atStart=>exact ⟨0,by omega,rfl,by simp [leN]⟩
 case round=>
  obtain ⟨j,hj,rfl,rfl⟩:=hrel
  by_cases hlt:j < m
  ·obtain ⟨b1,o1,rfl,cx⟩:=sl_at (i:=j) HV.out (by rw [←HM.out];exact hlt)
   have hlt':(j:Int) < (m:Int):=by omega
   have htk:=leN_take l j (by rw [←HM.out];exact hlt)
   have ha:leN (l.take j) < 18446744073709551616:=leN_64 _ (by rw [List.length_take];omega)
   obtain ⟨x,hxx⟩:∃ x,x=l.getD j 0:=⟨_,rfl⟩
   rw [←hxx] at cx htk
   have hb:x.toNat*256 ^ j < 18446744073709551616:=by
    have h1:=x.isLt
    have h2:256 ^ j≤256 ^ 7:=Nat.pow_le_pow_right (by decide) (by omega)
    have h3:x.toNat*256 ^ j≤255*256 ^ 7:=Nat.mul_le_mul (by omega) h2
    omega
   obtain ⟨q,hq⟩:∃ q,q=leN (l.take j):=⟨_,rfl⟩
   rw [←hq] at htk ha ⊢
   have hsh:=fun (t t2:TypeId) (xx yy:Operand) wx=>o_shl64 (P:=Tryz.prog) t t2 xx yy x j (by omega) wx
   obtain ⟨s,hs⟩:∃ s,s=x.toNat*256 ^ j:=⟨_,rfl⟩
   rw [←hs] at htk hb hsh
   have hor:=fun (t t2:TypeId) (xx yy:Operand) wx=>o_or64 (P:=Tryz.prog) t t2 xx yy q s ha hb wx
   rw [←htk] at hor
   have b0:=B8_lo x;have bh:=B8_hi x
   have SH:=zh hsh;have OR:=zh hor
   clear htk ha hb hxx hq hs hsh hor
   go_wp2_with (first
    | (refine wpList_bin zr .shl _ _ _ _ _ _ _ zr zr zr (fun wx=>SH.out _ _ _ _ wx) ?_)
    | (refine wpList_bin zr .or _ _ _ _ _ _ _ zr zr zr (fun wx=>OR.out _ _ _ _ wx) ?_))
   go_round
   case rel=>exact ⟨j+1,by omega,by go_num,rfl⟩
   case measure=>simp [intOf];omega
  ·have hjm:j=m:=by omega
   have hge:¬ (j:Int) < (m:Int):=by omega
   have hall:Hid (leN (l.take j)=leN l):=by show leN (l.take j)=leN l;rw [hjm,HM.out,List.take_length]
   clear hjm hlt hj
   rw [hall.out]
   go_wp2
   go_ret
   exact ⟨rfl,rfl⟩
theorem own_empty (w:World) (B:Nat) (hB:B≤w.heap.size):OwnB (w.alloc (.cells #[] 5)) B (.slice (some ⟨w.heap.size,0,none⟩) 0 0) []:=World.ownsRow_made w #[] 0 hB (Nat.zero_le _) rfl
theorem clone_any (l:Lb8) (v:Value) (w:World) (bl:l.length≤70368744177664) (hv:Sl w v l):Calls Tryz.prog 64 #[v] w (RSEnd w l):=by
 have q22:∀ (w:World) (a:Option Addr) (n c n' c':Nat),(binOp .eql 31 (.slice a n c) (.slice none n' c')).run Tryz.prog w=.ok (.bool a.isNone) w:=fun w a n c n' c'=>Lib.run_eql_slice_nil w _ _ a n c n' c' Tryz.underlying31
 have hv0:=hv
 obtain ⟨a0,cap,rfl,_,hr⟩:=hv
 obtain ⟨m,hm⟩:∃ m,m=l.length:=⟨_,rfl⟩
 cases a0 with
 | none=>
  have hl:l=[]:=by
   rcases l with _ | ⟨x,l⟩
   ·rfl
   ·obtain ⟨_,_,h,_⟩:=hr (by simp)
    cases h
  subst hl
  clear hr hv0 hm
  go_enter Tryz.func64,Tryz.ntmps64
  go_wp2
  go_ret
  exact ⟨_,rfl,sl_none _,Below.refl _ _⟩
 | some ad=>
  have hsl:Sl (w.alloc (.cells #[] 5)) (.slice (some ad) l.length cap) l:=hv0.below ((Below.refl _ _).alloc (Nat.le_refl _) _)
  have hb0:Below w.heap.size w (w.alloc (.cells #[] 5)):=(Below.refl _ _).alloc (Nat.le_refl _) _
  have how:=own_empty w w.heap.size (Nat.le_refl _)
  rw [←hm] at bl hsl ⊢
  have HV:=zh hsl;have HM:=zh hm;have HB:=zh hb0;have HO:=zh how
  clear hv0 hm hr hsl hb0 how
  go_enter Tryz.func64,Tryz.ntmps64
  go_wp2_with (at_builtin;refine wpList_append_bytes zr _ _ zr w.heap.size (.slice (some ⟨w.heap.size,0,none⟩) 0 0) (.slice (some ad) m cap) [] l zr HO.out zr HV.out (by rw [List.length_nil,←HM.out];omega) (by simp) ?_;intro v5 w5 ho5 _ hb5;have O5:=zh ho5;have B5:=zh (HB.out.trans hb5);clear ho5 hb5)
  go_ret
  exact ⟨_,rfl,by simpa using O5.out.sl,B5.out⟩
theorem zeros_splice (b:Lb8) (k m:Nat) (hm:m=b.length):Mem.splice (u8s (List.replicate (m+k) 0)).toArray 0 (u8s (b.take m))=(u8s (b++List.replicate k 0)).toArray:=by
 subst hm
 rw [List.take_length,←List.replicate_append_replicate]
 unfold Mem.splice u8s
 simp
theorem lengthen_any (b:Lb8) (k:Nat) (v:Value) (w:World) (hb:b.length+k≤1000000) (hv:Sl w v b) :
 Calls Tryz.prog 137 #[v,.int .i64 (k:Int)] w (SEnd w (b++List.replicate k 0)):=by
 obtain ⟨i8,hi8,hz8,hs8,hb8⟩:=info_parts infoU8
 have hv0:=hv
 obtain ⟨a0,cap,rfl,_,_⟩:=hv
 obtain ⟨m,hm⟩:∃ m,m=b.length:=⟨_,rfl⟩
 have hsp:=zeros_splice b k m hm
 have hlen:(b++List.replicate k 0).length=m+k:=by simp [hm]
 rw [←hm] at hb hv0 ⊢
 obtain ⟨T,hT⟩:∃ T,T=m+k:=⟨_,rfl⟩
 have hTi:(m:Int)+(k:Int)=(T:Int):=by omega
 have hmT:m≤T:=by omega
 rw [←hT] at hsp hlen
 have T6:T≤1000000:=by omega
 have I8:=zh hi8;have Z8:=zh hz8;have S8:=zh hs8;have B8':=zh hb8;have HV:=zh hv0;have HM:=zh hm;have SP:=zh hsp;have HL:=zh hlen;have TI:=zh hTi;have T6':=zh T6;have MT:=zh hmT
 clear hi8 hz8 hs8 hb8 hv0 hm hsp hlen hT hTi hmT
 go_enter Tryz.func137,Tryz.ntmps137
 go_wp2_with (first
  | (refine wpList_make_full _ zr _ _ 31 zr w.heap.size 5 i8 (.int .u8 0) 1 Tryz.underlying31 I8.out Z8.out S8.out .i64 .i64 ((m:Int)+(k:Int)) ((m:Int)+(k:Int)) T zr zr TI.out TI.out (by rw [B8'.out];omega) (by simp [maxLen];omega) (Nat.le_refl _) ?_;intro w4 ho4 hg4;have R4:Hid (At w4 w.heap.size (u8s (List.replicate T 0)).toArray 5):=(by have h:=own_full ho4;rw [made_zeros] at h;exact h);have B4:Hid (Below w.heap.size w w4):=(Below.refl _ _).grown hg4 (Nat.le_refl _) (fun _ h=>by cases h);clear ho4 hg4)
  | (refine wpList_copy_sl zr _ _ zr w.heap.size 0 T T (.slice a0 m cap) b zr zr (HV.out.below B4.out) m (by rw [←HM.out];exact (Nat.min_eq_left MT.out).symm) _ 5 R4.out (by rw [List.size_toArray,u8s_length,List.length_replicate];have:=MT.out;omega) _ SP.out ?_;intro w5 ha5 hs5 ho5 hk5;have A5:=zh ha5;have B5:Hid (Below w.heap.size w w5):=hk5 _ _ B4.out (Nat.le_refl _);clear ha5 hs5 ho5 hk5))
 go_ret
 exact ⟨w.heap.size,by rw [HL.out];rfl,A5.out,Nat.le_refl _,B5.out⟩
def putRow (b:Lb8) (n K j:Nat):Lb8:=b++List.replicate j 0++(nbytes n K).drop j
theorem putRow_length (b:Lb8) (n K j:Nat) (h:j≤K):(putRow b n K j).length=b.length+K:=by simp [putRow,nbytes_length];omega
theorem putRow_first (b:Lb8) (n K:Nat):putRow b n K K=b++List.replicate K 0:=by
 rw [putRow,List.drop_of_length_le (by rw [nbytes_length];exact Nat.le_refl _),List.append_nil]
theorem putRow_last (b:Lb8) (n K:Nat):putRow b n K 0=b++nbytes n K:=by simp [putRow]
theorem putRow_step (b:Lb8) (n K o j:Nat) (ho:o=b.length) (h:j < K) (q:Int) (hq:q=((nbyte n j).toNat:Int)) :
 (u8s (putRow b n K (j+1))).toArray.setIfInBounds (o+j) (.int .u8 q)=(u8s (putRow b n K j)).toArray:=by
 subst ho;subst hq
 rw [u8s_set]
 congr 2
 have e:(nbytes n K).drop j=nbyte n j::(nbytes n K).drop (j+1):=by
  rw [List.drop_eq_getElem_cons (by rw [nbytes_length];exact h)]
  simp [nbytes]
 unfold putRow
 rw [e,List.replicate_succ',List.append_assoc,List.append_assoc,List.set_append_right _ _ (by omega),Nat.add_sub_cancel_left,List.set_append_right _ _ (by simp),List.length_replicate,Nat.sub_self]
 simp
theorem nbyte_val (n j:Nat) (d:Int) (hd:d=((256 ^ j:Nat):Int)):(n:Int) / d % 256=((nbyte n j).toNat:Int):=by
 subst hd
 unfold nbyte
 rw [BitVec.toNat_ofNat,←Int.natCast_ediv]
 rfl
theorem nbyte_top (n:Nat) (hn:n < 18446744073709551616):(n:Int) / 72057594037927936=((nbyte n 7).toNat:Int):=by
 rw [←nbyte_val n 7 72057594037927936 (by decide)]
 omega
def PutEnd (w:World) (g:Nat) (L:Lb8) (e:Ending) (w':World):Prop:=e=.returned (.tuple #[])∧At w' g (u8s L).toArray 5∧∀ B x,Below B x w→B≤g→Below B x w'
theorem putNum_1 (b:Lb8) (n g o c:Nat) (w:World) (ho:o=b.length) (_hn:n < 18446744073709551616) (_hc:1≤c) (hA:At w g (u8s (b++List.replicate 1 0)).toArray 5) :
 Calls Tryz.prog 138 #[.slice (some ⟨g,o,none⟩) 1 c,.int .u64 (n:Int),.int .i64 1] w (PutEnd w g (b++nbytes n 1)):=by
 rw [←putRow_first b n 1] at hA
 rw [←putRow_last b n 1]
 have A1:=zh hA
 have K1:Hid (∀ B x,Below B x w→B≤g→Below B x w):=fun _ _ h _=>h
 have N0:=zh (show (n:Int) % 256=((nbyte n 0).toNat:Int) from (by have h:=nbyte_val n 0 1 (by decide);simpa using h))
 have S0:Hid ((u8s (putRow b n 1 1)).toArray.setIfInBounds (o+0) (.int .u8 ((n:Int) % 256))=(u8s (putRow b n 1 0)).toArray):=putRow_step b n 1 o 0 ho (by decide) _ N0.out
 have SZ1:Hid ((u8s (putRow b n 1 1)).toArray.size=o+1):=(by show _=_;rw [List.size_toArray,u8s_length,putRow_length _ _ _ _ (by decide),ho])
 clear hA ho
 go_enter Tryz.func138,Tryz.ntmps138
 go_wp2_with (first
  | (refine Mem.wpList_store_one zr 5 _ _ zr zr g (o+0) (.int .u8 ((n:Int) % 256)) zr zr zr infoB _ 5 A1.out (by rw [SZ1.out];omega) ?_;intro w0 ha ho hk;rw [S0.out] at ha;have A0:=zh ha;have K0:Hid (∀ B x,Below B x w→B≤g→Below B x w0):=(fun B x h hle=>hk B x (K1.out B x h hle) hle);clear ha ho hk A1 K1))
 go_end0
 exact ⟨rfl,A0.out,K0.out⟩
theorem putNum_2 (b:Lb8) (n g o c:Nat) (w:World) (ho:o=b.length) (_hn:n < 18446744073709551616) (_hc:2≤c) (hA:At w g (u8s (b++List.replicate 2 0)).toArray 5) :
 Calls Tryz.prog 138 #[.slice (some ⟨g,o,none⟩) 2 c,.int .u64 (n:Int),.int .i64 2] w (PutEnd w g (b++nbytes n 2)):=by
 rw [←putRow_first b n 2] at hA
 rw [←putRow_last b n 2]
 have A2:=zh hA
 have K2:Hid (∀ B x,Below B x w→B≤g→Below B x w):=fun _ _ h _=>h
 have N0:=zh (show (n:Int) % 256=((nbyte n 0).toNat:Int) from (by have h:=nbyte_val n 0 1 (by decide);simpa using h))
 have S0:Hid ((u8s (putRow b n 2 1)).toArray.setIfInBounds (o+0) (.int .u8 ((n:Int) % 256))=(u8s (putRow b n 2 0)).toArray):=putRow_step b n 2 o 0 ho (by decide) _ N0.out
 have SZ1:Hid ((u8s (putRow b n 2 1)).toArray.size=o+2):=(by show _=_;rw [List.size_toArray,u8s_length,putRow_length _ _ _ _ (by decide),ho])
 have N1:=zh (nbyte_val n 1 256 (by decide))
 have S1:Hid ((u8s (putRow b n 2 2)).toArray.setIfInBounds (o+1) (.int .u8 ((n:Int) / 256 % 256))=(u8s (putRow b n 2 1)).toArray):=putRow_step b n 2 o 1 ho (by decide) _ N1.out
 have SZ2:Hid ((u8s (putRow b n 2 2)).toArray.size=o+2):=(by show _=_;rw [List.size_toArray,u8s_length,putRow_length _ _ _ _ (by decide),ho])
 clear hA ho
 go_enter Tryz.func138,Tryz.ntmps138
 go_wp2_with (first
  | (refine Mem.wpList_store_one zr 5 _ _ zr zr g (o+1) (.int .u8 ((n:Int) / 256 % 256)) zr zr zr infoB _ 5 A2.out (by rw [SZ2.out];omega) ?_;intro w1 ha ho hk;rw [S1.out] at ha;have A1:=zh ha;have K1:Hid (∀ B x,Below B x w→B≤g→Below B x w1):=(fun B x h hle=>hk B x (K2.out B x h hle) hle);clear ha ho hk A2 K2)
  | (refine Mem.wpList_store_one zr 5 _ _ zr zr g (o+0) (.int .u8 ((n:Int) % 256)) zr zr zr infoB _ 5 A1.out (by rw [SZ1.out];omega) ?_;intro w0 ha ho hk;rw [S0.out] at ha;have A0:=zh ha;have K0:Hid (∀ B x,Below B x w→B≤g→Below B x w0):=(fun B x h hle=>hk B x (K1.out B x h hle) hle);clear ha ho hk A1 K1))
 go_end0
 exact ⟨rfl,A0.out,K0.out⟩
theorem putNum_3 (b:Lb8) (n g o c:Nat) (w:World) (ho:o=b.length) (_hn:n < 18446744073709551616) (_hc:3≤c) (hA:At w g (u8s (b++List.replicate 3 0)).toArray 5) :
 Calls Tryz.prog 138 #[.slice (some ⟨g,o,none⟩) 3 c,.int .u64 (n:Int),.int .i64 3] w (PutEnd w g (b++nbytes n 3)):=by
 rw [←putRow_first b n 3] at hA
 rw [←putRow_last b n 3]
 have A3:=zh hA
 have K3:Hid (∀ B x,Below B x w→B≤g→Below B x w):=fun _ _ h _=>h
 have N0:=zh (show (n:Int) % 256=((nbyte n 0).toNat:Int) from (by have h:=nbyte_val n 0 1 (by decide);simpa using h))
 have S0:Hid ((u8s (putRow b n 3 1)).toArray.setIfInBounds (o+0) (.int .u8 ((n:Int) % 256))=(u8s (putRow b n 3 0)).toArray):=putRow_step b n 3 o 0 ho (by decide) _ N0.out
 have SZ1:Hid ((u8s (putRow b n 3 1)).toArray.size=o+3):=(by show _=_;rw [List.size_toArray,u8s_length,putRow_length _ _ _ _ (by decide),ho])
 have N1:=zh (nbyte_val n 1 256 (by decide))
 have S1:Hid ((u8s (putRow b n 3 2)).toArray.setIfInBounds (o+1) (.int .u8 ((n:Int) / 256 % 256))=(u8s (putRow b n 3 1)).toArray):=putRow_step b n 3 o 1 ho (by decide) _ N1.out
 have SZ2:Hid ((u8s (putRow b n 3 2)).toArray.size=o+3):=(by show _=_;rw [List.size_toArray,u8s_length,putRow_length _ _ _ _ (by decide),ho])
 have N2:=zh (nbyte_val n 2 65536 (by decide))
 have S2:Hid ((u8s (putRow b n 3 3)).toArray.setIfInBounds (o+2) (.int .u8 ((n:Int) / 65536 % 256))=(u8s (putRow b n 3 2)).toArray):=putRow_step b n 3 o 2 ho (by decide) _ N2.out
 have SZ3:Hid ((u8s (putRow b n 3 3)).toArray.size=o+3):=(by show _=_;rw [List.size_toArray,u8s_length,putRow_length _ _ _ _ (by decide),ho])
 clear hA ho
 go_enter Tryz.func138,Tryz.ntmps138
 go_wp2_with (first
  | (refine Mem.wpList_store_one zr 5 _ _ zr zr g (o+2) (.int .u8 ((n:Int) / 65536 % 256)) zr zr zr infoB _ 5 A3.out (by rw [SZ3.out];omega) ?_;intro w2 ha ho hk;rw [S2.out] at ha;have A2:=zh ha;have K2:Hid (∀ B x,Below B x w→B≤g→Below B x w2):=(fun B x h hle=>hk B x (K3.out B x h hle) hle);clear ha ho hk A3 K3)
  | (refine Mem.wpList_store_one zr 5 _ _ zr zr g (o+1) (.int .u8 ((n:Int) / 256 % 256)) zr zr zr infoB _ 5 A2.out (by rw [SZ2.out];omega) ?_;intro w1 ha ho hk;rw [S1.out] at ha;have A1:=zh ha;have K1:Hid (∀ B x,Below B x w→B≤g→Below B x w1):=(fun B x h hle=>hk B x (K2.out B x h hle) hle);clear ha ho hk A2 K2)
  | (refine Mem.wpList_store_one zr 5 _ _ zr zr g (o+0) (.int .u8 ((n:Int) % 256)) zr zr zr infoB _ 5 A1.out (by rw [SZ1.out];omega) ?_;intro w0 ha ho hk;rw [S0.out] at ha;have A0:=zh ha;have K0:Hid (∀ B x,Below B x w→B≤g→Below B x w0):=(fun B x h hle=>hk B x (K1.out B x h hle) hle);clear ha ho hk A1 K1))
 go_end0
 exact ⟨rfl,A0.out,K0.out⟩
theorem putNum_4 (b:Lb8) (n g o c:Nat) (w:World) (ho:o=b.length) (_hn:n < 18446744073709551616) (_hc:4≤c) (hA:At w g (u8s (b++List.replicate 4 0)).toArray 5) :
 Calls Tryz.prog 138 #[.slice (some ⟨g,o,none⟩) 4 c,.int .u64 (n:Int),.int .i64 4] w (PutEnd w g (b++nbytes n 4)):=by
 rw [←putRow_first b n 4] at hA
 rw [←putRow_last b n 4]
 have A4:=zh hA
 have K4:Hid (∀ B x,Below B x w→B≤g→Below B x w):=fun _ _ h _=>h
 have N0:=zh (show (n:Int) % 256=((nbyte n 0).toNat:Int) from (by have h:=nbyte_val n 0 1 (by decide);simpa using h))
 have S0:Hid ((u8s (putRow b n 4 1)).toArray.setIfInBounds (o+0) (.int .u8 ((n:Int) % 256))=(u8s (putRow b n 4 0)).toArray):=putRow_step b n 4 o 0 ho (by decide) _ N0.out
 have SZ1:Hid ((u8s (putRow b n 4 1)).toArray.size=o+4):=(by show _=_;rw [List.size_toArray,u8s_length,putRow_length _ _ _ _ (by decide),ho])
 have N1:=zh (nbyte_val n 1 256 (by decide))
 have S1:Hid ((u8s (putRow b n 4 2)).toArray.setIfInBounds (o+1) (.int .u8 ((n:Int) / 256 % 256))=(u8s (putRow b n 4 1)).toArray):=putRow_step b n 4 o 1 ho (by decide) _ N1.out
 have SZ2:Hid ((u8s (putRow b n 4 2)).toArray.size=o+4):=(by show _=_;rw [List.size_toArray,u8s_length,putRow_length _ _ _ _ (by decide),ho])
 have N2:=zh (nbyte_val n 2 65536 (by decide))
 have S2:Hid ((u8s (putRow b n 4 3)).toArray.setIfInBounds (o+2) (.int .u8 ((n:Int) / 65536 % 256))=(u8s (putRow b n 4 2)).toArray):=putRow_step b n 4 o 2 ho (by decide) _ N2.out
 have SZ3:Hid ((u8s (putRow b n 4 3)).toArray.size=o+4):=(by show _=_;rw [List.size_toArray,u8s_length,putRow_length _ _ _ _ (by decide),ho])
 have N3:=zh (nbyte_val n 3 16777216 (by decide))
 have S3:Hid ((u8s (putRow b n 4 4)).toArray.setIfInBounds (o+3) (.int .u8 ((n:Int) / 16777216 % 256))=(u8s (putRow b n 4 3)).toArray):=putRow_step b n 4 o 3 ho (by decide) _ N3.out
 have SZ4:Hid ((u8s (putRow b n 4 4)).toArray.size=o+4):=(by show _=_;rw [List.size_toArray,u8s_length,putRow_length _ _ _ _ (by decide),ho])
 clear hA ho
 go_enter Tryz.func138,Tryz.ntmps138
 go_wp2_with (first
  | (refine Mem.wpList_store_one zr 5 _ _ zr zr g (o+3) (.int .u8 ((n:Int) / 16777216 % 256)) zr zr zr infoB _ 5 A4.out (by rw [SZ4.out];omega) ?_;intro w3 ha ho hk;rw [S3.out] at ha;have A3:=zh ha;have K3:Hid (∀ B x,Below B x w→B≤g→Below B x w3):=(fun B x h hle=>hk B x (K4.out B x h hle) hle);clear ha ho hk A4 K4)
  | (refine Mem.wpList_store_one zr 5 _ _ zr zr g (o+2) (.int .u8 ((n:Int) / 65536 % 256)) zr zr zr infoB _ 5 A3.out (by rw [SZ3.out];omega) ?_;intro w2 ha ho hk;rw [S2.out] at ha;have A2:=zh ha;have K2:Hid (∀ B x,Below B x w→B≤g→Below B x w2):=(fun B x h hle=>hk B x (K3.out B x h hle) hle);clear ha ho hk A3 K3)
  | (refine Mem.wpList_store_one zr 5 _ _ zr zr g (o+1) (.int .u8 ((n:Int) / 256 % 256)) zr zr zr infoB _ 5 A2.out (by rw [SZ2.out];omega) ?_;intro w1 ha ho hk;rw [S1.out] at ha;have A1:=zh ha;have K1:Hid (∀ B x,Below B x w→B≤g→Below B x w1):=(fun B x h hle=>hk B x (K2.out B x h hle) hle);clear ha ho hk A2 K2)
  | (refine Mem.wpList_store_one zr 5 _ _ zr zr g (o+0) (.int .u8 ((n:Int) % 256)) zr zr zr infoB _ 5 A1.out (by rw [SZ1.out];omega) ?_;intro w0 ha ho hk;rw [S0.out] at ha;have A0:=zh ha;have K0:Hid (∀ B x,Below B x w→B≤g→Below B x w0):=(fun B x h hle=>hk B x (K1.out B x h hle) hle);clear ha ho hk A1 K1))
 go_end0
 exact ⟨rfl,A0.out,K0.out⟩
theorem putNum_5 (b:Lb8) (n g o c:Nat) (w:World) (ho:o=b.length) (_hn:n < 18446744073709551616) (_hc:5≤c) (hA:At w g (u8s (b++List.replicate 5 0)).toArray 5) :
 Calls Tryz.prog 138 #[.slice (some ⟨g,o,none⟩) 5 c,.int .u64 (n:Int),.int .i64 5] w (PutEnd w g (b++nbytes n 5)):=by
 rw [←putRow_first b n 5] at hA
 rw [←putRow_last b n 5]
 have A5:=zh hA
 have K5:Hid (∀ B x,Below B x w→B≤g→Below B x w):=fun _ _ h _=>h
 have N0:=zh (show (n:Int) % 256=((nbyte n 0).toNat:Int) from (by have h:=nbyte_val n 0 1 (by decide);simpa using h))
 have S0:Hid ((u8s (putRow b n 5 1)).toArray.setIfInBounds (o+0) (.int .u8 ((n:Int) % 256))=(u8s (putRow b n 5 0)).toArray):=putRow_step b n 5 o 0 ho (by decide) _ N0.out
 have SZ1:Hid ((u8s (putRow b n 5 1)).toArray.size=o+5):=(by show _=_;rw [List.size_toArray,u8s_length,putRow_length _ _ _ _ (by decide),ho])
 have N1:=zh (nbyte_val n 1 256 (by decide))
 have S1:Hid ((u8s (putRow b n 5 2)).toArray.setIfInBounds (o+1) (.int .u8 ((n:Int) / 256 % 256))=(u8s (putRow b n 5 1)).toArray):=putRow_step b n 5 o 1 ho (by decide) _ N1.out
 have SZ2:Hid ((u8s (putRow b n 5 2)).toArray.size=o+5):=(by show _=_;rw [List.size_toArray,u8s_length,putRow_length _ _ _ _ (by decide),ho])
 have N2:=zh (nbyte_val n 2 65536 (by decide))
 have S2:Hid ((u8s (putRow b n 5 3)).toArray.setIfInBounds (o+2) (.int .u8 ((n:Int) / 65536 % 256))=(u8s (putRow b n 5 2)).toArray):=putRow_step b n 5 o 2 ho (by decide) _ N2.out
 have SZ3:Hid ((u8s (putRow b n 5 3)).toArray.size=o+5):=(by show _=_;rw [List.size_toArray,u8s_length,putRow_length _ _ _ _ (by decide),ho])
 have N3:=zh (nbyte_val n 3 16777216 (by decide))
 have S3:Hid ((u8s (putRow b n 5 4)).toArray.setIfInBounds (o+3) (.int .u8 ((n:Int) / 16777216 % 256))=(u8s (putRow b n 5 3)).toArray):=putRow_step b n 5 o 3 ho (by decide) _ N3.out
 have SZ4:Hid ((u8s (putRow b n 5 4)).toArray.size=o+5):=(by show _=_;rw [List.size_toArray,u8s_length,putRow_length _ _ _ _ (by decide),ho])
 have N4:=zh (nbyte_val n 4 4294967296 (by decide))
 have S4:Hid ((u8s (putRow b n 5 5)).toArray.setIfInBounds (o+4) (.int .u8 ((n:Int) / 4294967296 % 256))=(u8s (putRow b n 5 4)).toArray):=putRow_step b n 5 o 4 ho (by decide) _ N4.out
 have SZ5:Hid ((u8s (putRow b n 5 5)).toArray.size=o+5):=(by show _=_;rw [List.size_toArray,u8s_length,putRow_length _ _ _ _ (by decide),ho])
 clear hA ho
 go_enter Tryz.func138,Tryz.ntmps138
 go_wp2_with (first
  | (refine Mem.wpList_store_one zr 5 _ _ zr zr g (o+4) (.int .u8 ((n:Int) / 4294967296 % 256)) zr zr zr infoB _ 5 A5.out (by rw [SZ5.out];omega) ?_;intro w4 ha ho hk;rw [S4.out] at ha;have A4:=zh ha;have K4:Hid (∀ B x,Below B x w→B≤g→Below B x w4):=(fun B x h hle=>hk B x (K5.out B x h hle) hle);clear ha ho hk A5 K5)
  | (refine Mem.wpList_store_one zr 5 _ _ zr zr g (o+3) (.int .u8 ((n:Int) / 16777216 % 256)) zr zr zr infoB _ 5 A4.out (by rw [SZ4.out];omega) ?_;intro w3 ha ho hk;rw [S3.out] at ha;have A3:=zh ha;have K3:Hid (∀ B x,Below B x w→B≤g→Below B x w3):=(fun B x h hle=>hk B x (K4.out B x h hle) hle);clear ha ho hk A4 K4)
  | (refine Mem.wpList_store_one zr 5 _ _ zr zr g (o+2) (.int .u8 ((n:Int) / 65536 % 256)) zr zr zr infoB _ 5 A3.out (by rw [SZ3.out];omega) ?_;intro w2 ha ho hk;rw [S2.out] at ha;have A2:=zh ha;have K2:Hid (∀ B x,Below B x w→B≤g→Below B x w2):=(fun B x h hle=>hk B x (K3.out B x h hle) hle);clear ha ho hk A3 K3)
  | (refine Mem.wpList_store_one zr 5 _ _ zr zr g (o+1) (.int .u8 ((n:Int) / 256 % 256)) zr zr zr infoB _ 5 A2.out (by rw [SZ2.out];omega) ?_;intro w1 ha ho hk;rw [S1.out] at ha;have A1:=zh ha;have K1:Hid (∀ B x,Below B x w→B≤g→Below B x w1):=(fun B x h hle=>hk B x (K2.out B x h hle) hle);clear ha ho hk A2 K2)
  | (refine Mem.wpList_store_one zr 5 _ _ zr zr g (o+0) (.int .u8 ((n:Int) % 256)) zr zr zr infoB _ 5 A1.out (by rw [SZ1.out];omega) ?_;intro w0 ha ho hk;rw [S0.out] at ha;have A0:=zh ha;have K0:Hid (∀ B x,Below B x w→B≤g→Below B x w0):=(fun B x h hle=>hk B x (K1.out B x h hle) hle);clear ha ho hk A1 K1))
 go_end0
 exact ⟨rfl,A0.out,K0.out⟩
theorem putNum_6 (b:Lb8) (n g o c:Nat) (w:World) (ho:o=b.length) (_hn:n < 18446744073709551616) (_hc:6≤c) (hA:At w g (u8s (b++List.replicate 6 0)).toArray 5) :
 Calls Tryz.prog 138 #[.slice (some ⟨g,o,none⟩) 6 c,.int .u64 (n:Int),.int .i64 6] w (PutEnd w g (b++nbytes n 6)):=by
 rw [←putRow_first b n 6] at hA
 rw [←putRow_last b n 6]
 have A6:=zh hA
 have K6:Hid (∀ B x,Below B x w→B≤g→Below B x w):=fun _ _ h _=>h
 have N0:=zh (show (n:Int) % 256=((nbyte n 0).toNat:Int) from (by have h:=nbyte_val n 0 1 (by decide);simpa using h))
 have S0:Hid ((u8s (putRow b n 6 1)).toArray.setIfInBounds (o+0) (.int .u8 ((n:Int) % 256))=(u8s (putRow b n 6 0)).toArray):=putRow_step b n 6 o 0 ho (by decide) _ N0.out
 have SZ1:Hid ((u8s (putRow b n 6 1)).toArray.size=o+6):=(by show _=_;rw [List.size_toArray,u8s_length,putRow_length _ _ _ _ (by decide),ho])
 have N1:=zh (nbyte_val n 1 256 (by decide))
 have S1:Hid ((u8s (putRow b n 6 2)).toArray.setIfInBounds (o+1) (.int .u8 ((n:Int) / 256 % 256))=(u8s (putRow b n 6 1)).toArray):=putRow_step b n 6 o 1 ho (by decide) _ N1.out
 have SZ2:Hid ((u8s (putRow b n 6 2)).toArray.size=o+6):=(by show _=_;rw [List.size_toArray,u8s_length,putRow_length _ _ _ _ (by decide),ho])
 have N2:=zh (nbyte_val n 2 65536 (by decide))
 have S2:Hid ((u8s (putRow b n 6 3)).toArray.setIfInBounds (o+2) (.int .u8 ((n:Int) / 65536 % 256))=(u8s (putRow b n 6 2)).toArray):=putRow_step b n 6 o 2 ho (by decide) _ N2.out
 have SZ3:Hid ((u8s (putRow b n 6 3)).toArray.size=o+6):=(by show _=_;rw [List.size_toArray,u8s_length,putRow_length _ _ _ _ (by decide),ho])
 have N3:=zh (nbyte_val n 3 16777216 (by decide))
 have S3:Hid ((u8s (putRow b n 6 4)).toArray.setIfInBounds (o+3) (.int .u8 ((n:Int) / 16777216 % 256))=(u8s (putRow b n 6 3)).toArray):=putRow_step b n 6 o 3 ho (by decide) _ N3.out
 have SZ4:Hid ((u8s (putRow b n 6 4)).toArray.size=o+6):=(by show _=_;rw [List.size_toArray,u8s_length,putRow_length _ _ _ _ (by decide),ho])
 have N4:=zh (nbyte_val n 4 4294967296 (by decide))
 have S4:Hid ((u8s (putRow b n 6 5)).toArray.setIfInBounds (o+4) (.int .u8 ((n:Int) / 4294967296 % 256))=(u8s (putRow b n 6 4)).toArray):=putRow_step b n 6 o 4 ho (by decide) _ N4.out
 have SZ5:Hid ((u8s (putRow b n 6 5)).toArray.size=o+6):=(by show _=_;rw [List.size_toArray,u8s_length,putRow_length _ _ _ _ (by decide),ho])
 have N5:=zh (nbyte_val n 5 1099511627776 (by decide))
 have S5:Hid ((u8s (putRow b n 6 6)).toArray.setIfInBounds (o+5) (.int .u8 ((n:Int) / 1099511627776 % 256))=(u8s (putRow b n 6 5)).toArray):=putRow_step b n 6 o 5 ho (by decide) _ N5.out
 have SZ6:Hid ((u8s (putRow b n 6 6)).toArray.size=o+6):=(by show _=_;rw [List.size_toArray,u8s_length,putRow_length _ _ _ _ (by decide),ho])
 clear hA ho
 go_enter Tryz.func138,Tryz.ntmps138
 go_wp2_with (first
  | (refine Mem.wpList_store_one zr 5 _ _ zr zr g (o+5) (.int .u8 ((n:Int) / 1099511627776 % 256)) zr zr zr infoB _ 5 A6.out (by rw [SZ6.out];omega) ?_;intro w5 ha ho hk;rw [S5.out] at ha;have A5:=zh ha;have K5:Hid (∀ B x,Below B x w→B≤g→Below B x w5):=(fun B x h hle=>hk B x (K6.out B x h hle) hle);clear ha ho hk A6 K6)
  | (refine Mem.wpList_store_one zr 5 _ _ zr zr g (o+4) (.int .u8 ((n:Int) / 4294967296 % 256)) zr zr zr infoB _ 5 A5.out (by rw [SZ5.out];omega) ?_;intro w4 ha ho hk;rw [S4.out] at ha;have A4:=zh ha;have K4:Hid (∀ B x,Below B x w→B≤g→Below B x w4):=(fun B x h hle=>hk B x (K5.out B x h hle) hle);clear ha ho hk A5 K5)
  | (refine Mem.wpList_store_one zr 5 _ _ zr zr g (o+3) (.int .u8 ((n:Int) / 16777216 % 256)) zr zr zr infoB _ 5 A4.out (by rw [SZ4.out];omega) ?_;intro w3 ha ho hk;rw [S3.out] at ha;have A3:=zh ha;have K3:Hid (∀ B x,Below B x w→B≤g→Below B x w3):=(fun B x h hle=>hk B x (K4.out B x h hle) hle);clear ha ho hk A4 K4)
  | (refine Mem.wpList_store_one zr 5 _ _ zr zr g (o+2) (.int .u8 ((n:Int) / 65536 % 256)) zr zr zr infoB _ 5 A3.out (by rw [SZ3.out];omega) ?_;intro w2 ha ho hk;rw [S2.out] at ha;have A2:=zh ha;have K2:Hid (∀ B x,Below B x w→B≤g→Below B x w2):=(fun B x h hle=>hk B x (K3.out B x h hle) hle);clear ha ho hk A3 K3)
  | (refine Mem.wpList_store_one zr 5 _ _ zr zr g (o+1) (.int .u8 ((n:Int) / 256 % 256)) zr zr zr infoB _ 5 A2.out (by rw [SZ2.out];omega) ?_;intro w1 ha ho hk;rw [S1.out] at ha;have A1:=zh ha;have K1:Hid (∀ B x,Below B x w→B≤g→Below B x w1):=(fun B x h hle=>hk B x (K2.out B x h hle) hle);clear ha ho hk A2 K2)
  | (refine Mem.wpList_store_one zr 5 _ _ zr zr g (o+0) (.int .u8 ((n:Int) % 256)) zr zr zr infoB _ 5 A1.out (by rw [SZ1.out];omega) ?_;intro w0 ha ho hk;rw [S0.out] at ha;have A0:=zh ha;have K0:Hid (∀ B x,Below B x w→B≤g→Below B x w0):=(fun B x h hle=>hk B x (K1.out B x h hle) hle);clear ha ho hk A1 K1))
 go_end0
 exact ⟨rfl,A0.out,K0.out⟩
theorem putNum_7 (b:Lb8) (n g o c:Nat) (w:World) (ho:o=b.length) (_hn:n < 18446744073709551616) (_hc:7≤c) (hA:At w g (u8s (b++List.replicate 7 0)).toArray 5) :
 Calls Tryz.prog 138 #[.slice (some ⟨g,o,none⟩) 7 c,.int .u64 (n:Int),.int .i64 7] w (PutEnd w g (b++nbytes n 7)):=by
 rw [←putRow_first b n 7] at hA
 rw [←putRow_last b n 7]
 have A7:=zh hA
 have K7:Hid (∀ B x,Below B x w→B≤g→Below B x w):=fun _ _ h _=>h
 have N0:=zh (show (n:Int) % 256=((nbyte n 0).toNat:Int) from (by have h:=nbyte_val n 0 1 (by decide);simpa using h))
 have S0:Hid ((u8s (putRow b n 7 1)).toArray.setIfInBounds (o+0) (.int .u8 ((n:Int) % 256))=(u8s (putRow b n 7 0)).toArray):=putRow_step b n 7 o 0 ho (by decide) _ N0.out
 have SZ1:Hid ((u8s (putRow b n 7 1)).toArray.size=o+7):=(by show _=_;rw [List.size_toArray,u8s_length,putRow_length _ _ _ _ (by decide),ho])
 have N1:=zh (nbyte_val n 1 256 (by decide))
 have S1:Hid ((u8s (putRow b n 7 2)).toArray.setIfInBounds (o+1) (.int .u8 ((n:Int) / 256 % 256))=(u8s (putRow b n 7 1)).toArray):=putRow_step b n 7 o 1 ho (by decide) _ N1.out
 have SZ2:Hid ((u8s (putRow b n 7 2)).toArray.size=o+7):=(by show _=_;rw [List.size_toArray,u8s_length,putRow_length _ _ _ _ (by decide),ho])
 have N2:=zh (nbyte_val n 2 65536 (by decide))
 have S2:Hid ((u8s (putRow b n 7 3)).toArray.setIfInBounds (o+2) (.int .u8 ((n:Int) / 65536 % 256))=(u8s (putRow b n 7 2)).toArray):=putRow_step b n 7 o 2 ho (by decide) _ N2.out
 have SZ3:Hid ((u8s (putRow b n 7 3)).toArray.size=o+7):=(by show _=_;rw [List.size_toArray,u8s_length,putRow_length _ _ _ _ (by decide),ho])
 have N3:=zh (nbyte_val n 3 16777216 (by decide))
 have S3:Hid ((u8s (putRow b n 7 4)).toArray.setIfInBounds (o+3) (.int .u8 ((n:Int) / 16777216 % 256))=(u8s (putRow b n 7 3)).toArray):=putRow_step b n 7 o 3 ho (by decide) _ N3.out
 have SZ4:Hid ((u8s (putRow b n 7 4)).toArray.size=o+7):=(by show _=_;rw [List.size_toArray,u8s_length,putRow_length _ _ _ _ (by decide),ho])
 have N4:=zh (nbyte_val n 4 4294967296 (by decide))
 have S4:Hid ((u8s (putRow b n 7 5)).toArray.setIfInBounds (o+4) (.int .u8 ((n:Int) / 4294967296 % 256))=(u8s (putRow b n 7 4)).toArray):=putRow_step b n 7 o 4 ho (by decide) _ N4.out
 have SZ5:Hid ((u8s (putRow b n 7 5)).toArray.size=o+7):=(by show _=_;rw [List.size_toArray,u8s_length,putRow_length _ _ _ _ (by decide),ho])
 have N5:=zh (nbyte_val n 5 1099511627776 (by decide))
 have S5:Hid ((u8s (putRow b n 7 6)).toArray.setIfInBounds (o+5) (.int .u8 ((n:Int) / 1099511627776 % 256))=(u8s (putRow b n 7 5)).toArray):=putRow_step b n 7 o 5 ho (by decide) _ N5.out
 have SZ6:Hid ((u8s (putRow b n 7 6)).toArray.size=o+7):=(by show _=_;rw [List.size_toArray,u8s_length,putRow_length _ _ _ _ (by decide),ho])
 have N6:=zh (nbyte_val n 6 281474976710656 (by decide))
 have S6:Hid ((u8s (putRow b n 7 7)).toArray.setIfInBounds (o+6) (.int .u8 ((n:Int) / 281474976710656 % 256))=(u8s (putRow b n 7 6)).toArray):=putRow_step b n 7 o 6 ho (by decide) _ N6.out
 have SZ7:Hid ((u8s (putRow b n 7 7)).toArray.size=o+7):=(by show _=_;rw [List.size_toArray,u8s_length,putRow_length _ _ _ _ (by decide),ho])
 clear hA ho
 go_enter Tryz.func138,Tryz.ntmps138
 go_wp2_with (first
  | (refine Mem.wpList_store_one zr 5 _ _ zr zr g (o+6) (.int .u8 ((n:Int) / 281474976710656 % 256)) zr zr zr infoB _ 5 A7.out (by rw [SZ7.out];omega) ?_;intro w6 ha ho hk;rw [S6.out] at ha;have A6:=zh ha;have K6:Hid (∀ B x,Below B x w→B≤g→Below B x w6):=(fun B x h hle=>hk B x (K7.out B x h hle) hle);clear ha ho hk A7 K7)
  | (refine Mem.wpList_store_one zr 5 _ _ zr zr g (o+5) (.int .u8 ((n:Int) / 1099511627776 % 256)) zr zr zr infoB _ 5 A6.out (by rw [SZ6.out];omega) ?_;intro w5 ha ho hk;rw [S5.out] at ha;have A5:=zh ha;have K5:Hid (∀ B x,Below B x w→B≤g→Below B x w5):=(fun B x h hle=>hk B x (K6.out B x h hle) hle);clear ha ho hk A6 K6)
  | (refine Mem.wpList_store_one zr 5 _ _ zr zr g (o+4) (.int .u8 ((n:Int) / 4294967296 % 256)) zr zr zr infoB _ 5 A5.out (by rw [SZ5.out];omega) ?_;intro w4 ha ho hk;rw [S4.out] at ha;have A4:=zh ha;have K4:Hid (∀ B x,Below B x w→B≤g→Below B x w4):=(fun B x h hle=>hk B x (K5.out B x h hle) hle);clear ha ho hk A5 K5)
  | (refine Mem.wpList_store_one zr 5 _ _ zr zr g (o+3) (.int .u8 ((n:Int) / 16777216 % 256)) zr zr zr infoB _ 5 A4.out (by rw [SZ4.out];omega) ?_;intro w3 ha ho hk;rw [S3.out] at ha;have A3:=zh ha;have K3:Hid (∀ B x,Below B x w→B≤g→Below B x w3):=(fun B x h hle=>hk B x (K4.out B x h hle) hle);clear ha ho hk A4 K4)
  | (refine Mem.wpList_store_one zr 5 _ _ zr zr g (o+2) (.int .u8 ((n:Int) / 65536 % 256)) zr zr zr infoB _ 5 A3.out (by rw [SZ3.out];omega) ?_;intro w2 ha ho hk;rw [S2.out] at ha;have A2:=zh ha;have K2:Hid (∀ B x,Below B x w→B≤g→Below B x w2):=(fun B x h hle=>hk B x (K3.out B x h hle) hle);clear ha ho hk A3 K3)
  | (refine Mem.wpList_store_one zr 5 _ _ zr zr g (o+1) (.int .u8 ((n:Int) / 256 % 256)) zr zr zr infoB _ 5 A2.out (by rw [SZ2.out];omega) ?_;intro w1 ha ho hk;rw [S1.out] at ha;have A1:=zh ha;have K1:Hid (∀ B x,Below B x w→B≤g→Below B x w1):=(fun B x h hle=>hk B x (K2.out B x h hle) hle);clear ha ho hk A2 K2)
  | (refine Mem.wpList_store_one zr 5 _ _ zr zr g (o+0) (.int .u8 ((n:Int) % 256)) zr zr zr infoB _ 5 A1.out (by rw [SZ1.out];omega) ?_;intro w0 ha ho hk;rw [S0.out] at ha;have A0:=zh ha;have K0:Hid (∀ B x,Below B x w→B≤g→Below B x w0):=(fun B x h hle=>hk B x (K1.out B x h hle) hle);clear ha ho hk A1 K1))
 go_end0
 exact ⟨rfl,A0.out,K0.out⟩
theorem putNum_8 (b:Lb8) (n g o c:Nat) (w:World) (ho:o=b.length) (_hn:n < 18446744073709551616) (_hc:8≤c) (hA:At w g (u8s (b++List.replicate 8 0)).toArray 5) :
 Calls Tryz.prog 138 #[.slice (some ⟨g,o,none⟩) 8 c,.int .u64 (n:Int),.int .i64 8] w (PutEnd w g (b++nbytes n 8)):=by
 rw [←putRow_first b n 8] at hA
 rw [←putRow_last b n 8]
 have A8:=zh hA
 have K8:Hid (∀ B x,Below B x w→B≤g→Below B x w):=fun _ _ h _=>h
 have N0:=zh (show (n:Int) % 256=((nbyte n 0).toNat:Int) from (by have h:=nbyte_val n 0 1 (by decide);simpa using h))
 have S0:Hid ((u8s (putRow b n 8 1)).toArray.setIfInBounds (o+0) (.int .u8 ((n:Int) % 256))=(u8s (putRow b n 8 0)).toArray):=putRow_step b n 8 o 0 ho (by decide) _ N0.out
 have SZ1:Hid ((u8s (putRow b n 8 1)).toArray.size=o+8):=(by show _=_;rw [List.size_toArray,u8s_length,putRow_length _ _ _ _ (by decide),ho])
 have N1:=zh (nbyte_val n 1 256 (by decide))
 have S1:Hid ((u8s (putRow b n 8 2)).toArray.setIfInBounds (o+1) (.int .u8 ((n:Int) / 256 % 256))=(u8s (putRow b n 8 1)).toArray):=putRow_step b n 8 o 1 ho (by decide) _ N1.out
 have SZ2:Hid ((u8s (putRow b n 8 2)).toArray.size=o+8):=(by show _=_;rw [List.size_toArray,u8s_length,putRow_length _ _ _ _ (by decide),ho])
 have N2:=zh (nbyte_val n 2 65536 (by decide))
 have S2:Hid ((u8s (putRow b n 8 3)).toArray.setIfInBounds (o+2) (.int .u8 ((n:Int) / 65536 % 256))=(u8s (putRow b n 8 2)).toArray):=putRow_step b n 8 o 2 ho (by decide) _ N2.out
 have SZ3:Hid ((u8s (putRow b n 8 3)).toArray.size=o+8):=(by show _=_;rw [List.size_toArray,u8s_length,putRow_length _ _ _ _ (by decide),ho])
 have N3:=zh (nbyte_val n 3 16777216 (by decide))
 have S3:Hid ((u8s (putRow b n 8 4)).toArray.setIfInBounds (o+3) (.int .u8 ((n:Int) / 16777216 % 256))=(u8s (putRow b n 8 3)).toArray):=putRow_step b n 8 o 3 ho (by decide) _ N3.out
 have SZ4:Hid ((u8s (putRow b n 8 4)).toArray.size=o+8):=(by show _=_;rw [List.size_toArray,u8s_length,putRow_length _ _ _ _ (by decide),ho])
 have N4:=zh (nbyte_val n 4 4294967296 (by decide))
 have S4:Hid ((u8s (putRow b n 8 5)).toArray.setIfInBounds (o+4) (.int .u8 ((n:Int) / 4294967296 % 256))=(u8s (putRow b n 8 4)).toArray):=putRow_step b n 8 o 4 ho (by decide) _ N4.out
 have SZ5:Hid ((u8s (putRow b n 8 5)).toArray.size=o+8):=(by show _=_;rw [List.size_toArray,u8s_length,putRow_length _ _ _ _ (by decide),ho])
 have N5:=zh (nbyte_val n 5 1099511627776 (by decide))
 have S5:Hid ((u8s (putRow b n 8 6)).toArray.setIfInBounds (o+5) (.int .u8 ((n:Int) / 1099511627776 % 256))=(u8s (putRow b n 8 5)).toArray):=putRow_step b n 8 o 5 ho (by decide) _ N5.out
 have SZ6:Hid ((u8s (putRow b n 8 6)).toArray.size=o+8):=(by show _=_;rw [List.size_toArray,u8s_length,putRow_length _ _ _ _ (by decide),ho])
 have N6:=zh (nbyte_val n 6 281474976710656 (by decide))
 have S6:Hid ((u8s (putRow b n 8 7)).toArray.setIfInBounds (o+6) (.int .u8 ((n:Int) / 281474976710656 % 256))=(u8s (putRow b n 8 6)).toArray):=putRow_step b n 8 o 6 ho (by decide) _ N6.out
 have SZ7:Hid ((u8s (putRow b n 8 7)).toArray.size=o+8):=(by show _=_;rw [List.size_toArray,u8s_length,putRow_length _ _ _ _ (by decide),ho])
 have N7:=zh (nbyte_top n _hn)
 have S7:Hid ((u8s (putRow b n 8 8)).toArray.setIfInBounds (o+7) (.int .u8 ((n:Int) / 72057594037927936))=(u8s (putRow b n 8 7)).toArray):=putRow_step b n 8 o 7 ho (by decide) _ N7.out
 have SZ8:Hid ((u8s (putRow b n 8 8)).toArray.size=o+8):=(by show _=_;rw [List.size_toArray,u8s_length,putRow_length _ _ _ _ (by decide),ho])
 clear hA ho
 go_enter Tryz.func138,Tryz.ntmps138
 go_wp2_with (first
  | (refine Mem.wpList_store_one zr 5 _ _ zr zr g (o+7) (.int .u8 ((n:Int) / 72057594037927936)) zr zr zr infoB _ 5 A8.out (by rw [SZ8.out];omega) ?_;intro w7 ha ho hk;rw [S7.out] at ha;have A7:=zh ha;have K7:Hid (∀ B x,Below B x w→B≤g→Below B x w7):=(fun B x h hle=>hk B x (K8.out B x h hle) hle);clear ha ho hk A8 K8)
  | (refine Mem.wpList_store_one zr 5 _ _ zr zr g (o+6) (.int .u8 ((n:Int) / 281474976710656 % 256)) zr zr zr infoB _ 5 A7.out (by rw [SZ7.out];omega) ?_;intro w6 ha ho hk;rw [S6.out] at ha;have A6:=zh ha;have K6:Hid (∀ B x,Below B x w→B≤g→Below B x w6):=(fun B x h hle=>hk B x (K7.out B x h hle) hle);clear ha ho hk A7 K7)
  | (refine Mem.wpList_store_one zr 5 _ _ zr zr g (o+5) (.int .u8 ((n:Int) / 1099511627776 % 256)) zr zr zr infoB _ 5 A6.out (by rw [SZ6.out];omega) ?_;intro w5 ha ho hk;rw [S5.out] at ha;have A5:=zh ha;have K5:Hid (∀ B x,Below B x w→B≤g→Below B x w5):=(fun B x h hle=>hk B x (K6.out B x h hle) hle);clear ha ho hk A6 K6)
  | (refine Mem.wpList_store_one zr 5 _ _ zr zr g (o+4) (.int .u8 ((n:Int) / 4294967296 % 256)) zr zr zr infoB _ 5 A5.out (by rw [SZ5.out];omega) ?_;intro w4 ha ho hk;rw [S4.out] at ha;have A4:=zh ha;have K4:Hid (∀ B x,Below B x w→B≤g→Below B x w4):=(fun B x h hle=>hk B x (K5.out B x h hle) hle);clear ha ho hk A5 K5)
  | (refine Mem.wpList_store_one zr 5 _ _ zr zr g (o+3) (.int .u8 ((n:Int) / 16777216 % 256)) zr zr zr infoB _ 5 A4.out (by rw [SZ4.out];omega) ?_;intro w3 ha ho hk;rw [S3.out] at ha;have A3:=zh ha;have K3:Hid (∀ B x,Below B x w→B≤g→Below B x w3):=(fun B x h hle=>hk B x (K4.out B x h hle) hle);clear ha ho hk A4 K4)
  | (refine Mem.wpList_store_one zr 5 _ _ zr zr g (o+2) (.int .u8 ((n:Int) / 65536 % 256)) zr zr zr infoB _ 5 A3.out (by rw [SZ3.out];omega) ?_;intro w2 ha ho hk;rw [S2.out] at ha;have A2:=zh ha;have K2:Hid (∀ B x,Below B x w→B≤g→Below B x w2):=(fun B x h hle=>hk B x (K3.out B x h hle) hle);clear ha ho hk A3 K3)
  | (refine Mem.wpList_store_one zr 5 _ _ zr zr g (o+1) (.int .u8 ((n:Int) / 256 % 256)) zr zr zr infoB _ 5 A2.out (by rw [SZ2.out];omega) ?_;intro w1 ha ho hk;rw [S1.out] at ha;have A1:=zh ha;have K1:Hid (∀ B x,Below B x w→B≤g→Below B x w1):=(fun B x h hle=>hk B x (K2.out B x h hle) hle);clear ha ho hk A2 K2)
  | (refine Mem.wpList_store_one zr 5 _ _ zr zr g (o+0) (.int .u8 ((n:Int) % 256)) zr zr zr infoB _ 5 A1.out (by rw [SZ1.out];omega) ?_;intro w0 ha ho hk;rw [S0.out] at ha;have A0:=zh ha;have K0:Hid (∀ B x,Below B x w→B≤g→Below B x w0):=(fun B x h hle=>hk B x (K1.out B x h hle) hle);clear ha ho hk A1 K1))
 go_end0
 exact ⟨rfl,A0.out,K0.out⟩
theorem putNum_any (b:Lb8) (n g o c K:Nat) (w:World) (ho:o=b.length) (hn:n < 18446744073709551616) (h1:1≤K) (h8:K≤8) (hc:K≤c) (hA:At w g (u8s (b++List.replicate K 0)).toArray 5) :
 Calls Tryz.prog 138 #[.slice (some ⟨g,o,none⟩) K c,.int .u64 (n:Int),.int .i64 (K:Int)] w (PutEnd w g (b++nbytes n K)):=by
 have h:K=1∨K=2∨K=3∨K=4∨K=5∨K=6∨K=7∨K=8:=by omega
 rcases h with rfl | rfl | rfl | rfl | rfl | rfl | rfl | rfl
 ·exact putNum_1 b n g o c w ho hn hc hA
 ·exact putNum_2 b n g o c w ho hn hc hA
 ·exact putNum_3 b n g o c w ho hn hc hA
 ·exact putNum_4 b n g o c w ho hn hc hA
 ·exact putNum_5 b n g o c w ho hn hc hA
 ·exact putNum_6 b n g o c w ho hn hc hA
 ·exact putNum_7 b n g o c w ho hn hc hA
 ·exact putNum_8 b n g o c w ho hn hc hA
end Sha
end Go.Proofs.YtlhnegbjoncieaaGreatDoor
