/- My own texts, merged. -/
import Derived.Test.YtlhnegbjoncieaaGreatDoorBL07
import Derived.Test.YtlhnegbjoncieaaGreatDoorBL12
set_option maxRecDepth 100000
set_option maxHeartbeats 2000000
namespace Go.Proofs.YtlhnegbjoncieaaGreatDoor
namespace Sha
open Go.RowKit Mem
def Z12:Array Value:=(u8s (List.replicate 12 0)).toArray
theorem zero12 (w:World):(zeroValue 226).run Tryz.prog w=.ok (.agg Z12) w:=by kernel_rfl
theorem info12:(Tryz.prog.info? 226).map (·.size)=some 12:=by kernel_rfl
theorem cnonce_low (e:BitVec 32) (b:BitVec 64) (j:Nat) (h:j < 4):(cnonce e b).getD j 0=wb e (8*j):=by
 simp [cnonce,List.getD_eq_getElem?_getD,List.getElem?_append,h]
theorem cnonce_high (e:BitVec 32) (b:BitVec 64) (j:Nat) (h:j < 8):(cnonce e b).getD (4+j) 0=wb64 b (8*j):=by
 have h4:¬ 4+j < 4:=by omega
 simp [cnonce,List.getD_eq_getElem?_getD,List.getElem?_append,h,h4]
theorem wb_pow' (x:BitVec 32) (k:Nat):V x / 2 ^ k % 256=((wb x k).toNat:Int):=wb_val x k _ (by simp)
def ncOf (e:BitVec 32) (b:BitVec 64):Array Value:=(u8s (cnonce e b)).toArray
def put4 (l:Lb8) (o:Nat) (x:BitVec 32):Nat→Lb8
 | 0=>l
 | j+1=>(put4 l o x j).set (o+j) (wb x (8*j))
theorem put4_length (l:Lb8) (o:Nat) (x:BitVec 32):∀ j,(put4 l o x j).length=l.length
 | 0=>rfl
 | j+1=>by rw [put4,List.length_set,put4_length l o x j]
theorem put4_row (L:Lb8) (n i:Nat) (x:BitVec 32) (hl:L.length=n) (h:i+4≤n) (hx:∀ j,j < 4→L.getD (i+j) 0=wb x (8*j)):∀ j,j≤4→put4 (rowZ L n i) i x j=rowZ L n (i+j)
 | 0,_=>rfl
 | j+1,hj=>by rw [put4,put4_row L n i x hl h hx j (by omega),←hx j (by omega),rowZ_set L n (i+j) hl (by omega)];rfl
structure CPInv (C:Array Value) (b:Nat) (t:TypeId) (w wr:World):Prop where
 a:At wr b C t
 o:But b w wr
 k:∀ B x,Below B x w→B≤b→Below B x wr
theorem putWord_any (x:BitVec 32) (l:Lb8) (b o n c:Nat) (t:TypeId) (w:World) (ha:At w b (u8s l).toArray t) (hn:4≤n) (ho:o+4≤l.length) :
 Calls Tryz.prog 169 #[.slice (some ⟨b,o,none⟩) n c,.int .u32 (V x)] w fun e w'=>e=.returned (.tuple #[])∧CPInv (u8s (put4 l o x 4)).toArray b t w w':=by
 have vx:=V_lo x
 have hI:CPInv (u8s (put4 l o x 0)).toArray b t w w:=⟨ha,But.refl _ _,fun _ _ h _=>h⟩
 have HI:=zh hI;have HO:=zh ho
 clear ha hI ho
 go_enter Tryz.func169,Tryz.ntmps169
 go_wp2_with fail
 go_loopw [4,5] (fun _ i wr=>∃ j:Nat,j≤4∧i=.int .i64 j∧CPInv (u8s (put4 l o x j)).toArray b t w wr) (fun _ i _=>4 - (intOf i).toNat)
 case atStart=>exact ⟨0,by omega,rfl,HI.out⟩
 case round=>
  clear HI
  obtain ⟨j,hj,rfl,hI⟩:=hrel
  by_cases hlt:j < 4
  ·have hset:(u8s (put4 l o x j)).toArray.setIfInBounds (o+j) (.int .u8 ((wb x (8*j)).toNat:Int))=(u8s (put4 l o x (j+1))).toArray:=u8s_set _ _ _
   have hEs:o+j < (u8s (put4 l o x j)).toArray.size:=by have:=HO.out;simp [u8s,put4_length];omega
   have hk:=hI.a;have hO:=hI.o;have hK:=hI.k
   obtain ⟨E,hE⟩:∃ E,E=(u8s (put4 l o x j)).toArray:=⟨_,rfl⟩
   rw [←hE] at hk hset hEs
   have KK:=zh hk;have ST:=zh hset;have ES:=zh hEs;have OO:=zh hO;have BB:=zh hK
   have hlt':(j:Int) < 4:=by omega
   have hjn:(j:Int) < (n:Int):=by omega
   clear hk hset hEs hI hE hO hK
   go_wp2_with (refine Mem.wpList_store_one zr 5 _ _ zr zr b (o+j) (.int .u8 ((wb x (8*j)).toNat:Int)) zr (by exact congrArg (Value.int .u8) (wb_pow' x _)) zr infoB _ _ KK.out ES.out ?_;intro w' hat' ho' hb';have KK':=zh hat';have OO':=zh (OO.out.row (hb' b _ (Below.refl _ _) (Nat.le_refl _)).size ho');have BB':=zh (fun B y (h:Below B y w) (hB:B≤b)=>hb' B y (BB.out B y h hB) hB);clear hat' ho' hb')
   go_roundw
   case rel=>exact ⟨j+1,by omega,by go_num,by rw [←ST.out];exact KK'.out,OO'.out,BB'.out⟩
   case measure=>simp [intOf];omega
  ·have hj4:j=4:=by omega
   have hge:¬ (j:Int) < 4:=by omega
   rw [hj4] at hI
   have II:=zh hI
   clear hI hj4 hlt hj
   go_wp2_with fail
   go_end0
   exact ⟨rfl,II.out⟩
def fwl:List (BitVec 32):=[1634760805,857760878,2036477234,1797285236]
structure CTabs (w:World):Prop where
 f:TabV w 2 (u32s fwl)
 p:TabV w 3 (ints plc.flatten)
theorem CTabs.below {w w':World} {B:Nat} (h:CTabs w) (hb:Below B w w') (hB:w.heap.size≤B):CTabs w':=
 ⟨h.f.below hb (Nat.lt_of_lt_of_le h.f.lt hB),h.p.below hb (Nat.lt_of_lt_of_le h.p.lt hB)⟩
theorem cfirst_known (key nonce:Lb8) (n:BitVec 32) (j:Nat) (h:j < 4):(cfirst key nonce n).getD j 0=fwl.getD j 0:=by
 have:j=0∨j=1∨j=2∨j=3:=by omega
 rcases this with rfl | rfl | rfl | rfl <;> rfl
theorem cfirst_key (key nonce:Lb8) (n:BitVec 32) (j:Nat) (h:j < 8):(cfirst key nonce n).getD (4+j) 0=lew key j:=by
 have:j=0∨j=1∨j=2∨j=3∨j=4∨j=5∨j=6∨j=7:=by omega
 rcases this with rfl | rfl | rfl | rfl | rfl | rfl | rfl | rfl <;> rfl
theorem cfirst_count (key nonce:Lb8) (n:BitVec 32):(cfirst key nonce n).getD 12 0=n:=rfl
theorem cfirst_nonce (key nonce:Lb8) (n:BitVec 32) (j:Nat) (h:j < 3):(cfirst key nonce n).getD (13+j) 0=lew nonce j:=by
 have:j=0∨j=1∨j=2:=by omega
 rcases this with rfl | rfl | rfl <;> rfl
theorem at_low {w:World} {b n i:Nat} {l:Lb8} {t:TypeId} (h:At w b (u8s l).toArray t) (hl:l.length=n) (hi:4*i+4≤n) :
 Sl w (.slice (some ⟨b,4*i,none⟩) (n - 4*i) (n - 4*i)) (l.drop (4*i)):=by
 have hlen:(l.drop (4*i)).length=n - 4*i:=by rw [List.length_drop,hl]
 refine ⟨_,_,by rw [hlen],by rw [hlen];exact Nat.le_refl _,fun _=>⟨b,4*i,rfl,h.lt,fun k hk=>?_⟩⟩
 rw [hlen] at hk
 rw [h.cell,List.getElem?_toArray,u8s_get l (4*i+k) (by omega)]
 simp [List.getD_eq_getElem?_getD]
theorem lew_low (l:Lb8) (i:Nat):lew (l.drop (4*i)) 0=lew l i:=by
 simp [lew,List.getD_eq_getElem?_getD]
def Z16:Array Value:=(u32s (List.replicate 16 0)).toArray
theorem zero16 (w:World):(zeroValue 285).run Tryz.prog w=.ok (.agg Z16) w:=by kernel_rfl
theorem info16:(Tryz.prog.info? 285).map (·.size)=some 16:=by kernel_rfl
theorem info4w:(Tryz.prog.info? 293).map (·.size)=some 4:=by kernel_rfl
structure LInv (C D X:Array Value) (W:List (BitVec 32)) (w wr:World):Prop where
 c:At wr w.heap.size C 22
 d:At wr (w.heap.size+1) D 226
 r:At wr (w.heap.size+1+1) X 285
 k:At wr (w.heap.size+1+1+1) (u32s W).toArray 285
 b:Below w.heap.size w wr
def cfOf (key nonce:Lb8) (n:BitVec 32):Array Value:=(u32s (cfirst key nonce n)).toArray
theorem cfOf_size (key nonce:Lb8) (n:BitVec 32):(cfOf key nonce n).size=16:=by simp [cfOf,u32s,cfirst_length]
theorem layWords_any (key nonce:Lb8) (n:BitVec 32) (lk:key.length=32) (ln:nonce.length=12) (w:World) (hL:CTabs w) :
 Calls Tryz.prog 197 #[.agg (u8s key).toArray,.agg (u8s nonce).toArray,.int .u32 (V n)] w fun o w'=>o=.returned (.agg (cfOf key nonce n))∧Below w.heap.size w w':=by
 obtain ⟨X,hX⟩:∃ X,X=Z16:=⟨_,rfl⟩
 have hx:=zero16
 rw [←hX] at hx
 have hXs:X.size=16:=by rw [hX];simp [Z16,u32s]
 obtain ⟨C,hC⟩:∃ C,C=(u8s key).toArray:=⟨_,rfl⟩
 obtain ⟨D,hD⟩:∃ D,D=(u8s nonce).toArray:=⟨_,rfl⟩
 obtain ⟨cf,hcf⟩:∃ cf,cf=cfirst key nonce n:=⟨_,rfl⟩
 have lcf:cf.length=16:=by rw [hcf];exact cfirst_length _ _ _
 have k1:∀ j,j < 4→cf.getD j 0=fwl.getD j 0:=by rw [hcf];exact cfirst_known key nonce n
 have k2:∀ j,j < 8→cf.getD (4+j) 0=lew key j:=by rw [hcf];exact cfirst_key key nonce n
 have k3:cf.getD 12 0=n:=by rw [hcf];exact cfirst_count key nonce n
 have k4:∀ j,j < 3→cf.getD (13+j) 0=lew nonce j:=by rw [hcf];exact cfirst_nonce key nonce n
 rw [←hC,←hD]
 have hI:LInv C D X (rowY cf 16 0) w ((((w.alloc (.cells C 22)).alloc (.cells D 226)).alloc (.cells X 285)).alloc (.cells X 285)):=by
  refine ⟨((at_new w C _).alloc _).alloc _ |>.alloc _,?_,?_,?_,((((Below.refl _ _).alloc (Nat.le_refl _) _).alloc (by simp) _).alloc (by simp;omega) _).alloc (by simp;omega) _⟩
  ·have h:=((at_new (w.alloc (.cells C 22)) D 226).alloc (.cells X 285)).alloc (.cells X 285)
   simpa using h
  ·have h:=(at_new ((w.alloc (.cells C 22)).alloc (.cells D 226)) X 285).alloc (.cells X 285)
   simpa using h
  ·have h:=at_new (((w.alloc (.cells C 22)).alloc (.cells D 226)).alloc (.cells X 285)) X 285
   have e:(u32s (rowY cf 16 0)).toArray=X:=by rw [hX];simp [rowY,Z16]
   rw [e]
   simpa using h
 obtain ⟨F,hF⟩:∃ F,F=u32s fwl:=⟨_,rfl⟩
 have hft:=(hL.f.below hI.b hL.f.lt).c
 have hfj:∀ j,j < 4→F.toArray[j]?=some (.int .u32 (V (fwl.getD j 0))):=fun j hj=>by rw [hF,List.getElem?_toArray];exact u32s_get fwl j hj
 have hFs:(Tryz.prog.info? 293).map (·.size)=some F.length:=by rw [hF];exact info4w
 rw [←hF] at hft
 have KEY:=zh lk;have NON:=zh ln;have HI:=zh hI;have HC:=zh hC;have HD:=zh hD;have XS:=zh hXs;have HCF:=zh hcf;have LCF:=zh lcf
 have K1:=zh k1;have K2:=zh k2;have K3:=zh k3;have K4:=zh k4;have FT:=zh hft;have FJ:=zh hfj;have FS:=zh hFs
 have WORD:=zh word_any
 clear lk ln hI hC hD hXs hX hcf lcf k1 k2 k3 k4 hft hfj hFs hF hL
 go_enter Tryz.func197,Tryz.ntmps197
 go_wp2_with (refine wpList_load_mid zr 293 _ zr 2 0 zr F _ FT.out Tryz.underlying293 zr FS.out ?_)
 clear FT FS hx
 generalize (((w.alloc (.cells C 22)).alloc (.cells D 226)).alloc (.cells X 285)).alloc (.cells X 285)=w4 at *
 go_loopw [8,9,13] (fun _ _ i wr=>∃ j:Nat,j≤4∧i=.int .i64 j∧LInv C D X (rowY cf 16 j) w wr) (fun _ _ i _=>4 - (intOf i).toNat)
 case atStart=>exact ⟨0,by omega,rfl,HI.out⟩
 case round=>
  clear HI
  obtain ⟨j,hj,rfl,hI⟩:=hrel
  by_cases hlt:j < 4
  ·obtain ⟨x,hxx⟩:∃ x,x=fwl.getD j 0:=⟨_,rfl⟩
   have hset:(u32s (rowY cf 16 j)).toArray.setIfInBounds j (.int .u32 (V x))=(u32s (rowY cf 16 (j+1))).toArray:=by
    rw [←rowY_set cf 16 j LCF.out (by omega),K1.out j hlt,←hxx];exact u32s_set _ _ _
   have hEs:j < (u32s (rowY cf 16 j)).toArray.size:=by simp [u32s,rowY_length cf 16 j LCF.out (by omega)];omega
   have fj:=FJ.out j hlt
   rw [←hxx] at fj
   have hk:=hI.k
   obtain ⟨E,hE⟩:∃ E,E=(u32s (rowY cf 16 j)).toArray:=⟨_,rfl⟩
   rw [←hE] at hk hset hEs
   have KK:=zh hk;have ST:=zh hset;have ES:=zh hEs;have CC:=zh hI.c;have DD:=zh hI.d;have RR:=zh hI.r;have BB:=zh hI.b;have FX:=zh fj
   have hlt':(j:Int) < 4:=by omega
   clear hk hset hEs hI hE fj hxx
   go_wp2_with (first
    | (refine wpList_index_row zr 293 _ _ zr 4 36 Tryz.underlying293 _ Tryz.underlying36 zr infoU32 F.toArray j zr zr hlt _ FX.out ?_)
    | (refine Mem.wpList_store_one zr 36 _ _ zr zr (w.heap.size+1+1+1) j (.int .u32 (V x)) zr zr zr infoU32 _ _ KK.out ES.out ?_;intro w' hat' ho' hb';have KK':=zh hat';have CC':=zh (at_keep CC.out ho' (by omega));have DD':=zh (at_keep DD.out ho' (by omega));have RR':=zh (at_keep RR.out ho' (by omega));have BB':=zh (hb' _ _ BB.out (by omega));clear hat' ho' hb'))
   go_roundw
   case rel=>exact ⟨j+1,by omega,by go_num,CC'.out,DD'.out,RR'.out,by rw [←ST.out];exact KK'.out,BB'.out⟩
   case measure=>simp [intOf];omega
  ·have hj4:j=4:=by omega
   have hge:¬ (j:Int) < 4:=by omega
   rw [hj4] at hI
   have II:=zh hI
   clear hI hj4 hlt hj FJ
   go_wp2_with fail
   go_loopw [10,21] (fun _ i wr=>∃ j:Nat,j≤8∧i=.int .i64 j∧LInv C D X (rowY cf 16 (4+j)) w wr) (fun _ i _=>8 - (intOf i).toNat)
   case atStart=>exact ⟨0,by omega,rfl,II.out⟩
   case round=>
    clear II
    obtain ⟨j,hj,rfl,hI⟩:=hrel
    by_cases hlt:j < 8
    ·obtain ⟨x,hxx⟩:∃ x,x=lew key j:=⟨_,rfl⟩
     have hset:(u32s (rowY cf 16 (4+j))).toArray.setIfInBounds (4+j) (.int .u32 (V x))=(u32s (rowY cf 16 (4+(j+1)))).toArray:=by
      rw [show 4+(j+1)=(4+j)+1 by omega,←rowY_set cf 16 (4+j) LCF.out (by omega),K2.out j hlt,←hxx];exact u32s_set _ _ _
     have hEs:4+j < (u32s (rowY cf 16 (4+j))).toArray.size:=by simp [u32s,rowY_length cf 16 (4+j) LCF.out (by omega)];omega
     have hsl:=at_low (i:=j) (by rw [←HC.out];exact hI.c) KEY.out (by omega)
     have hw:=fun wx (hb:Below wr.heap.size wr wx)=>WORD.out _ _ wx (hsl.below hb) (by rw [List.length_drop,KEY.out];omega)
     rw [lew_low key j,←hxx] at hw
     have hk:=hI.k
     obtain ⟨E,hE⟩:∃ E,E=(u32s (rowY cf 16 (4+j))).toArray:=⟨_,rfl⟩
     rw [←hE] at hk hset hEs
     have KK:=zh hk;have ST:=zh hset;have ES:=zh hEs;have CC:=zh hI.c;have DD:=zh hI.d;have RR:=zh hI.r;have BB:=zh hI.b;have HW:=zh hw
     have hlt':(j:Int) < 8:=by omega
     clear hk hset hEs hI hE hsl hw hxx
     go_wp2_with (first | (refine wpList_slice_arr zr 22 _ _ zr 32 5 Tryz.underlying22 infoB w.heap.size 0 (4*j) zr (by exact congrArg (Value.int .i64) (by omega)) (by omega) ?_;rw [Nat.zero_add]))
     refine (HW.out _ (Below.refl _ _)).mono ?_
     rintro e w' ⟨rfl,hb⟩
     have KK2:=zh (KK.out.below hb KK.out.lt);have CC2:=zh (CC.out.below hb CC.out.lt);have DD2:=zh (DD.out.below hb DD.out.lt);have RR2:=zh (RR.out.below hb RR.out.lt);have BB2:=zh (BB.out.trans (hb.mono BB.out.size))
     clear hb HW KK CC DD RR BB
     go_wp2_with (refine Mem.wpList_store_one zr 36 _ _ zr zr (w.heap.size+1+1+1) (4+j) (.int .u32 (V x)) zr zr zr infoU32 _ _ KK2.out ES.out ?_;intro w' hat' ho' hb';have KK':=zh hat';have CC':=zh (at_keep CC2.out ho' (by omega));have DD':=zh (at_keep DD2.out ho' (by omega));have RR':=zh (at_keep RR2.out ho' (by omega));have BB':=zh (hb' _ _ BB2.out (by omega));clear hat' ho' hb')
     go_roundw
     case rel=>exact ⟨j+1,by omega,by go_num,CC'.out,DD'.out,RR'.out,by rw [←ST.out];exact KK'.out,BB'.out⟩
     case measure=>simp [intOf];omega
    ·have hj8:j=8:=by omega
     have hge:¬ (j:Int) < 8:=by omega
     rw [hj8] at hI
     have hset:(u32s (rowY cf 16 12)).toArray.setIfInBounds 12 (.int .u32 (V n))=(u32s (rowY cf 16 (13+0))).toArray:=by
      rw [←rowY_set cf 16 12 LCF.out (by omega),K3.out];exact u32s_set _ _ _
     have hEs:12 < (u32s (rowY cf 16 12)).toArray.size:=by simp [u32s,rowY_length cf 16 12 LCF.out (by omega)]
     have hk:=hI.k
     obtain ⟨E,hE⟩:∃ E,E=(u32s (rowY cf 16 12)).toArray:=⟨_,rfl⟩
     rw [show 4+8=12 from rfl,←hE] at hk
     rw [←hE] at hset hEs
     have KK:=zh hk;have ST:=zh hset;have ES:=zh hEs;have CC:=zh hI.c;have DD:=zh hI.d;have RR:=zh hI.r;have BB:=zh hI.b
     clear hk hset hEs hI hE hj8 hlt hj
     go_wp2_with (refine Mem.wpList_store_one zr 36 _ _ zr zr (w.heap.size+1+1+1) 12 (.int .u32 (V n)) zr zr zr infoU32 _ _ KK.out ES.out ?_;intro w' hat' ho' hb';have KK':=zh hat';have CC':=zh (at_keep CC.out ho' (by omega));have DD':=zh (at_keep DD.out ho' (by omega));have RR':=zh (at_keep RR.out ho' (by omega));have BB':=zh (hb' _ _ BB.out (by omega));clear hat' ho' hb')
     clear KK CC DD RR BB
     go_loopw [11,34] (fun _ i wr=>∃ j:Nat,j≤3∧i=.int .i64 j∧LInv C D X (rowY cf 16 (13+j)) w wr) (fun _ i _=>3 - (intOf i).toNat)
     case atStart=>exact ⟨0,by omega,rfl,CC'.out,DD'.out,RR'.out,by rw [←ST.out];exact KK'.out,BB'.out⟩
     case round=>
      clear KK' CC' DD' RR' BB' ST ES
      obtain ⟨j,hj,rfl,hI⟩:=hrel
      by_cases hlt:j < 3
      ·obtain ⟨x,hxx⟩:∃ x,x=lew nonce j:=⟨_,rfl⟩
       have hset:(u32s (rowY cf 16 (13+j))).toArray.setIfInBounds (13+j) (.int .u32 (V x))=(u32s (rowY cf 16 (13+(j+1)))).toArray:=by
        rw [show 13+(j+1)=(13+j)+1 by omega,←rowY_set cf 16 (13+j) LCF.out (by omega),K4.out j hlt,←hxx];exact u32s_set _ _ _
       have hEs:13+j < (u32s (rowY cf 16 (13+j))).toArray.size:=by simp [u32s,rowY_length cf 16 (13+j) LCF.out (by omega)];omega
       have hsl:=at_low (i:=j) (by rw [←HD.out];exact hI.d) NON.out (by omega)
       have hw:=fun wx (hb:Below wr.heap.size wr wx)=>WORD.out _ _ wx (hsl.below hb) (by rw [List.length_drop,NON.out];omega)
       rw [lew_low nonce j,←hxx] at hw
       have hk:=hI.k
       obtain ⟨E,hE⟩:∃ E,E=(u32s (rowY cf 16 (13+j))).toArray:=⟨_,rfl⟩
       rw [←hE] at hk hset hEs
       have KK:=zh hk;have ST:=zh hset;have ES:=zh hEs;have CC:=zh hI.c;have DD:=zh hI.d;have RR:=zh hI.r;have BB:=zh hI.b;have HW:=zh hw
       have hlt':(j:Int) < 3:=by omega
       clear hk hset hEs hI hE hsl hw hxx
       go_wp2_with (first | (refine wpList_slice_arr zr 226 _ _ zr 12 5 Tryz.underlying226 infoB (w.heap.size+1) 0 (4*j) zr (by exact congrArg (Value.int .i64) (by omega)) (by omega) ?_;rw [Nat.zero_add]))
       refine (HW.out _ (Below.refl _ _)).mono ?_
       rintro e w' ⟨rfl,hb⟩
       have KK2:=zh (KK.out.below hb KK.out.lt);have CC2:=zh (CC.out.below hb CC.out.lt);have DD2:=zh (DD.out.below hb DD.out.lt);have RR2:=zh (RR.out.below hb RR.out.lt);have BB2:=zh (BB.out.trans (hb.mono BB.out.size))
       clear hb HW KK CC DD RR BB
       go_wp2_with (refine Mem.wpList_store_one zr 36 _ _ zr zr (w.heap.size+1+1+1) (13+j) (.int .u32 (V x)) zr zr zr infoU32 _ _ KK2.out ES.out ?_;intro w' hat' ho' hb';have KK':=zh hat';have CC':=zh (at_keep CC2.out ho' (by omega));have DD':=zh (at_keep DD2.out ho' (by omega));have RR':=zh (at_keep RR2.out ho' (by omega));have BB':=zh (hb' _ _ BB2.out (by omega));clear hat' ho' hb')
       go_roundw
       case rel=>exact ⟨j+1,by omega,by go_num,CC'.out,DD'.out,RR'.out,by rw [←ST.out];exact KK'.out,BB'.out⟩
       case measure=>simp [intOf];omega
      ·have hj3:j=3:=by omega
       have hge:¬ (j:Int) < 3:=by omega
       rw [hj3,rowY_all cf 16 LCF.out] at hI
       obtain ⟨M,hM⟩:∃ M,M=cfOf key nonce n:=⟨_,rfl⟩
       have hk:=hI.k
       rw [show (u32s cf).toArray=M by rw [hM,HCF.out];rfl] at hk
       have hMs:M.size=16:=by rw [hM];exact cfOf_size _ _ _
       have hMo:M.all (·.oneCell')=true:=by rw [hM];exact u32s_one _
       have HM:=zh hM;have MS:=zh hMs;have MO:=zh hMo;have KK:=zh hk;have RR:=zh hI.r;have BB:=zh hI.b
       clear hM hMs hMo hk hI hlt hj hj3
       go_wp2_with (first | (refine wpList_load_all zr 285 _ zr (w.heap.size+1+1+1) zr _ Tryz.underlying285 zr M _ KK.out (by rw [MS.out];exact info16) ?_) | (refine wpList_store_all zr 285 _ _ zr zr (w.heap.size+1+1) M zr zr (by rw [MS.out];exact info16) _ _ RR.out (by rw [MS.out,XS.out]) MO.out ?_))
       try simp only [Exit.inBlock,Exit.then]
       refine ret_row zr (w.heap.size+1+1) 285 M _ zr (RR.out.row M) Tryz.underlying285 zr (by rw [MS.out];exact info16) ?_
       exact ⟨by rw [HM.out],below_row BB.out (by omega) M⟩
end Sha
end Go.Proofs.YtlhnegbjoncieaaGreatDoor
