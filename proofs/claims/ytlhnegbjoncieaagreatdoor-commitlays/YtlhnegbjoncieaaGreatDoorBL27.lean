/- My own texts, merged. -/
import Derived.Test.YtlhnegbjoncieaaGreatDoorBL22
import Derived.Deep.DeepCutAuto
set_option maxRecDepth 100000
set_option maxHeartbeats 2000000
namespace Go.Proofs.YtlhnegbjoncieaaGreatDoor
namespace Mem
open Go.RowKit
theorem plan_slice_arr {P:Program} {ops:Array Oper} {Q:Exit→Act→World→Prop} {S:World→Prop} {w:World} {a:Act} {o:Oper} {i:Nat} {r:Plan} (ty:TypeId) (x ix:Operand) (n:Nat) (elem:TypeId) (b c k:Nat) (ho:ops.toList[i]?=some o) (hw:Region.wanted o (yielded ops a.tmps)=true) (hop:o.op=.slice ty x (some ix) none none) (hx:a.eval x=.pointer (some ⟨b,c,none⟩))
 (hi:a.eval ix=.int .i64 (k:Int)) (hk:k < n) (hu:P.underlying ty=some (.array n elem)) (hs:(P.info? elem).map (·.size)=some 1) (h:wpPlan P ops Q S r (a.put o.dst (.slice (some ⟨b,c+k,none⟩) (n - k) (n - k))) w):wpPlan P ops Q S (.take i r) a w:=
 plan_take _ ho hw (fun w' _=>by
  cases hq:P.info? elem with
  | none=>simp [hq] at hs
  | some q=>
   have hs1:q.size=1:=by simpa [hq] using hs
   have hne:¬ n=k:=by omega
   have hle:(k:Int)≤(n:Int):=by omega
   have hat:(Instr.sliceAt ty (.pointer (some ⟨b,c,none⟩)) (some (.int .i64 (k:Int))) none none).run P w'=.ok (.slice (some ⟨b,c+k,none⟩) (n - k) (n - k)) w':=by
    simp [Instr.sliceAt,Instr.sureAddr,Instr.sliceBounds,Instr.sliceBound,asIntOf,Sem.run_bind,run_underlying hu,sizeOf,typeInfo,hq,hs1,hne,Addr.add_mid]
    omega
   unfold execOp
   simp only [hop,hx,hi,Option.map_some,Option.map_none,Sem.run_bind,hat,Result.andThen_ok,Sem.run_pure]) h
end Mem
namespace Sha
open Go.RowKit Mem
def CZ64:Array Value:=(u8s (List.replicate 64 0)).toArray
theorem czero64 (w:World):(zeroValue 243).run Tryz.prog w=.ok (.agg CZ64) w:=by kernel_rfl
theorem cinfo64:(Tryz.prog.info? 243).map (·.size)=some 64:=by kernel_rfl
theorem info32b:(Tryz.prog.info? 22).map (·.size)=some 32:=by kernel_rfl
def cbOf (key nonce:Lb8) (n:BitVec 32):Array Value:=(u8s (cblk key nonce n)).toArray
theorem cbOf_size (key nonce:Lb8) (n:BitVec 32):(cbOf key nonce n).size=64:=by simp [cbOf,u8s,cblk_length]
theorem cblk_word (key nonce:Lb8) (n:BitVec 32) (i:Nat) (h:i < 16) (j:Nat) (hj:j < 4):(cblk key nonce n).getD (4*i+j) 0=wb ((all8 (cfirst key nonce n) 10).getD i 0+(cfirst key nonce n).getD i 0) (8*j):=by
 have e1:(cblk key nonce n).getD (4*i+j) 0=cByte (cwords key nonce n) (4*i+j):=by
  unfold cblk
  simp [List.getD_eq_getElem?_getD,show 4*i+j < 64 by omega]
 rw [e1,cByte,show (4*i+j) / 4=i by omega,show (4*i+j) % 4=j by omega,cwords,adds_getD _ _ (by rw [all8_length]) i (by rw [all8_length,cfirst_length];exact h)]
structure BInv (X CF:Array Value) (L:Lb8) (b7:Nat) (w wr:World):Prop where
 r:At wr (w.heap.size+1+1) X 243
 f:At wr b7 CF 285
 k:At wr (b7+1) (u8s L).toArray 243
 b:Below w.heap.size w wr
theorem blk_any (key nonce:Lb8) (n:BitVec 32) (lk:key.length=32) (ln:nonce.length=12) (w:World) (hL:CTabs w) :
 Calls Tryz.prog 188 #[.agg (u8s key).toArray,.agg (u8s nonce).toArray,.int .u32 (V n)] w fun o w'=>o=.returned (.agg (cbOf key nonce n))∧Below w.heap.size w w':=by
 obtain ⟨X,hX⟩:∃ X,X=CZ64:=⟨_,rfl⟩
 have hx:=czero64
 rw [←hX] at hx
 have hXs:X.size=64:=by rw [hX];simp [CZ64,u8s]
 obtain ⟨Y,hY⟩:∃ Y,Y=Z16:=⟨_,rfl⟩
 have hy:=zero16
 rw [←hY] at hy
 have hYs:Y.size=16:=by rw [hY];simp [Z16,u32s]
 have hla:=fun wx (h:Below w.heap.size w wx)=>layWords_any key nonce n lk ln wx (hL.below h (Nat.le_refl _))
 have hro:=fun wx (h:Below w.heap.size w wx)=>turnWords_any (cfirst key nonce n) (cfirst_length key nonce n) wx (hL.below h (Nat.le_refl _))
 have hcb:=cblk_word key nonce n
 have lcb:=cblk_length key nonce n
 obtain ⟨C,hC⟩:∃ C,C=(u8s key).toArray:=⟨_,rfl⟩
 obtain ⟨D,hD⟩:∃ D,D=(u8s nonce).toArray:=⟨_,rfl⟩
 obtain ⟨CF,hCF⟩:∃ CF,CF=cfOf key nonce n:=⟨_,rfl⟩
 obtain ⟨R,hR⟩:∃ R,R=rdOf (cfirst key nonce n):=⟨_,rfl⟩
 obtain ⟨cb,hcbb⟩:∃ cb,cb=cblk key nonce n:=⟨_,rfl⟩
 have hCs:C.size=32:=by rw [hC];simp [u8s,lk]
 have hDs:D.size=12:=by rw [hD];simp [u8s,ln]
 have hCFs:CF.size=16:=by rw [hCF];exact cfOf_size _ _ _
 have hCFo:CF.all (·.oneCell')=true:=by rw [hCF];exact u32s_one _
 have fj:∀ j,j < 16→CF[j]?=some (.int .u32 (V ((cfirst key nonce n).getD j 0))):=fun j hj=>by rw [hCF,cfOf,List.getElem?_toArray];exact u32s_get _ j (by rw [cfirst_length];exact hj)
 have rj:∀ j,j < 16→R[j]?=some (.int .u32 (V ((all8 (cfirst key nonce n) 10).getD j 0))):=fun j hj=>by rw [hR,rdOf,List.getElem?_toArray];exact u32s_get _ j (by rw [all8_length,cfirst_length];exact hj)
 rw [show (u32s (cfirst key nonce n)).toArray=CF from hCF.symm,←hR] at hro
 rw [←hC,←hD,←hCF] at hla
 rw [←hcbb] at hcb lcb
 rw [←hC,←hD]
 generalize cfirst key nonce n=cf at *
 generalize all8 cf 10=rd at *
 have cC:At (((w.alloc (.cells C 22)).alloc (.cells D 226)).alloc (.cells X 243)) w.heap.size C 22:=((at_new w C _).alloc _).alloc _
 have cD:At (((w.alloc (.cells C 22)).alloc (.cells D 226)).alloc (.cells X 243)) (w.heap.size+1) D 226:=by
  have h:=(at_new (w.alloc (.cells C 22)) D 226).alloc (.cells X 243)
  simpa using h
 have cX:At (((w.alloc (.cells C 22)).alloc (.cells D 226)).alloc (.cells X 243)) (w.heap.size+1+1) X 243:=by
  have h:=at_new ((w.alloc (.cells C 22)).alloc (.cells D 226)) X 243
  simpa using h
 have cB:Below w.heap.size w (((w.alloc (.cells C 22)).alloc (.cells D 226)).alloc (.cells X 243)):=(((Below.refl _ _).alloc (Nat.le_refl _) _).alloc (by simp) _).alloc (by simp;omega) _
 have hX0:(u8s (rowZ cb 64 0)).toArray=X:=by rw [hX];simp [rowZ,CZ64]
 have LA:=zh hla;have RO:=zh hro;have CB:=zh hcb;have LCB:=zh lcb;have CS:=zh hCs;have DS:=zh hDs;have FS:=zh hCFs;have FO:=zh hCFo;have XS:=zh hXs;have YS:=zh hYs
 have FJ:=zh fj;have RJ:=zh rj;have AC:=zh cC;have AD:=zh cD;have AX:=zh cX;have AB:=zh cB;have HCB:=zh hcbb;have X0:=zh hX0
 clear hla hro hcb lcb hCs hDs hCFs hCFo hXs hYs fj rj cC cD cX cB hcbb hC hD hCF hR hX hY hX0 hL lk ln
 go_enter Tryz.func188,Tryz.ntmps188
 go_wp2_with (first
  | (refine wpList_load_all zr 22 _ zr w.heap.size zr _ Tryz.underlying22 zr C _ AC.out (by rw [CS.out];exact info32b) ?_)
  | (refine wpList_load_all zr 226 _ zr (w.heap.size+1) zr _ Tryz.underlying226 zr D _ AD.out (by rw [DS.out];exact info12) ?_))
 refine (LA.out _ AB.out).mono ?_
 rintro e w1 ⟨rfl,hb1⟩
 have X1:=zh (AX.out.below hb1 AX.out.lt);have B1:=zh (AB.out.trans (hb1.mono AB.out.size))
 have S1:Hid (w.heap.size+1+1+1≤w1.heap.size):=by have h:=hb1.size;simp at h;show w.heap.size+1+1+1≤w1.heap.size;omega
 clear hb1 AC AD AX AB LA CS DS
 have f2:At ((w1.alloc (.cells CF 285)).alloc (.cells X 243)) w1.heap.size CF 285:=(at_new w1 CF _).alloc _
 have b2:Below w.heap.size w ((w1.alloc (.cells CF 285)).alloc (.cells X 243)):=(B1.out.alloc B1.out.size _).alloc (by have:=B1.out.size;simp;omega) _
 have k2:At ((w1.alloc (.cells CF 285)).alloc (.cells X 243)) (w1.heap.size+1) X 243:=by
  have h:=at_new (w1.alloc (.cells CF 285)) X 243
  simpa using h
 have r2:At ((w1.alloc (.cells CF 285)).alloc (.cells X 243)) (w.heap.size+1+1) X 243:=(X1.out.alloc _).alloc _
 have F2:=zh f2;have B2:=zh b2;have K2:=zh k2;have R2:=zh r2
 clear f2 b2 k2 r2 X1 B1
 go_wp2_with (first
  | (refine wpList_store_new zr 285 _ _ zr zr CF _ _ zr zr (by rw [FS.out];exact info16) (by rw [FS.out,YS.out]) FO.out ?_)
  | (refine wpList_load_all zr 285 _ zr w1.heap.size zr _ Tryz.underlying285 zr CF _ F2.out (by rw [FS.out];exact info16) ?_))
 refine (RO.out _ B2.out).mono ?_
 rintro e w3 ⟨rfl,hb3⟩
 obtain ⟨b7,hb7⟩:∃ b7,b7=w1.heap.size:=⟨_,rfl⟩
 have I3:Hid (BInv X CF (rowZ cb 64 (4*0)) b7 w w3):=by
  refine ⟨R2.out.below hb3 R2.out.lt,?_,?_,B2.out.trans (hb3.mono B2.out.size)⟩
  ·rw [hb7];exact F2.out.below hb3 F2.out.lt
  ·rw [hb7,X0.out];exact K2.out.below hb3 K2.out.lt
 rw [←hb7] at S1 ⊢
 clear hb3 F2 B2 K2 R2 RO hb7 hx hy
 go_wp2_with fail
 go_loopw [9,10,17] (fun _ _ i wr=>∃ j:Nat,j≤16∧i=.int .i64 j∧BInv X CF (rowZ cb 64 (4*j)) b7 w wr) (fun _ _ i _=>16 - (intOf i).toNat)
 case atStart=>exact ⟨0,by omega,rfl,I3.out⟩
 case round=>
  clear I3
  obtain ⟨j,hj,rfl,hI⟩:=hrel
  by_cases hlt:j < 16
  ·obtain ⟨x,hxx⟩:∃ x,x=rd.getD j 0:=⟨_,rfl⟩
   obtain ⟨y,hyy⟩:∃ y,y=cf.getD j 0:=⟨_,rfl⟩
   have rx:=RJ.out j hlt
   have fy:=FJ.out j hlt
   have cw:=CB.out j hlt
   rw [←hxx] at rx;rw [←hyy] at fy;rw [←hxx,←hyy] at cw
   have lz:(rowZ cb 64 (4*j)).length=64:=rowZ_length cb 64 (4*j) LCB.out (by omega)
   have hpu:=fun wx (h:At wx (b7+1) (u8s (rowZ cb 64 (4*j))).toArray 243)=>putWord_any (x+y) (rowZ cb 64 (4*j)) (b7+1) (0+4*j) (64 - 4*j) (64 - 4*j) 243 wx h (by omega) (by rw [lz];omega)
   rw [show 0+4*j=4*j by omega,put4_row cb 64 (4*j) (x+y) LCB.out (by omega) cw 4 (by decide),show 4*j+4=4*(j+1) by omega] at hpu
   have RX:=zh rx;have FY:=zh fy;have PU:=zh hpu;have II:=zh hI
   have hlt':(j:Int) < 16:=by omega
   clear rx fy cw lz hpu hI hxx hyy
   go_wp2_with (refine wpList_index_row zr 285 _ _ zr 16 36 Tryz.underlying285 _ Tryz.underlying36 zr infoU32 R j zr zr hlt _ RX.out ?_)
   refine wp_region_plan_in (fun w'=>At w' b7 CF 285) (.take 0 (.take 1 (.take 2 (.take 3 (.take 4 (.take 5 (.take 6 (.take 7 (.sole 8 .done))))))))) (by kernel_rfl) (by kernel_rfl) (by kernel_rfl) II.out.f ?_
   (first | refine Mem.pm1 ?_ | refine Mem.pm2 ?_ | refine Mem.pt ?_ | refine Mem.pf ?_)
   (simp only [Mem.zp,Mem.pb,Mem.pc])
   refine plan_bin _ _ _ _ _ _ _ _ zr zr zr ze ze (fun wx=>o_imul _ _ _ _ 4 (j:Int) ((4*j:Nat):Int) (by omega) (by omega) (by omega) wx) ?_
   (simp only [Mem.zp,Mem.pb,Mem.pc])
   refine plan_slice_arr 243 _ _ 64 5 (b7+1) 0 (4*j) zr zr zr ze ze (by omega) Tryz.underlying243 infoB ?_
   rw [Nat.zero_add]
   (simp only [Mem.zp,Mem.pb,Mem.pc])
   iterate 2 ((first | refine Mem.pm1 ?_ | refine Mem.pm2 ?_ | refine Mem.pt ?_ | refine Mem.pf ?_);(simp only [Mem.zp,Mem.pb,Mem.pc]))
   refine plan_index_arr1 285 36 16 _ _ b7 j zr zr zr ze ze (by omega) Tryz.underlying285 infoU32 ?_
   (simp only [Mem.zp,Mem.pb,Mem.pc])
   refine plan_cell 36 _ _ _ _ zr zr zr ze (fun w' hw'=>(hw'.cell _).trans FY.out) Tryz.underlying36 zr ?_
   (simp only [Mem.zp,Mem.pb,Mem.pc])
   refine plan_bin _ _ _ _ _ _ _ _ zr zr zr ze ze (fun wx=>o_add _ _ _ _ _ _ wx) ?_
   (simp only [Mem.zp,Mem.pb,Mem.pc])
   refine plan_call 169 _ _ _ (by kernel_rfl) zr zr zr (by first | exact Mem.ev_none _ | (simp only [List.map_toArray,List.map_cons,List.map_nil,Mem.ev_tmp,List.getD_cons_succ,List.getD_cons_zero] <;> rfl)) ?_
   refine (PU.out wr.drew II.out.k).mono ?_
   rintro e w2 ⟨rfl,hp⟩
   have f2:At w2 b7 CF 285:=At.but (w:=wr.drew) II.out.f hp.o (by omega)
   have r2:At w2 (w.heap.size+1+1) X 243:=At.but (w:=wr.drew) II.out.r hp.o (by have:=S1.out;omega)
   have b2:Below w.heap.size w w2:=hp.k _ _ II.out.b.drew (by have:=S1.out;omega)
   have F2:=zh f2;have R2:=zh r2;have B2:=zh b2;have K2:=zh hp.a
   clear f2 r2 b2 hp PU II
   refine ⟨_,rfl,F2.out,?_⟩
   (simp only [Mem.zp,Mem.pb,Mem.pc])
   refine plan_nil ?_
   go_wp2_with fail
   go_roundw
   case rel=>exact ⟨j+1,by omega,by go_num,R2.out,F2.out,K2.out,B2.out⟩
   case measure=>simp [intOf];omega
  ·have hj16:j=16:=by omega
   have hge:¬ (j:Int) < 16:=by omega
   rw [hj16,rowZ_all cb 64 LCB.out] at hI
   obtain ⟨M,hM⟩:∃ M,M=cbOf key nonce n:=⟨_,rfl⟩
   have hk:=hI.k
   rw [show (u8s cb).toArray=M by rw [hM,HCB.out];rfl] at hk
   have hMs:M.size=64:=by rw [hM];exact cbOf_size _ _ _
   have hMo:M.all (·.oneCell')=true:=by rw [hM];exact u8s_one _
   have HM:=zh hM;have MS:=zh hMs;have MO:=zh hMo;have KK:=zh hk;have RR:=zh hI.r;have BB:=zh hI.b
   clear hM hMs hMo hk hI hlt hj hj16
   go_wp2_with (first | (refine wpList_load_all zr 243 _ zr (b7+1) zr _ Tryz.underlying243 zr M _ KK.out (by rw [MS.out];exact cinfo64) ?_) | (refine wpList_store_all zr 243 _ _ zr zr (w.heap.size+1+1) M zr zr (by rw [MS.out];exact cinfo64) _ _ RR.out (by rw [MS.out,XS.out]) MO.out ?_))
   try simp only [Exit.inBlock,Exit.then]
   refine ret_row zr (w.heap.size+1+1) 243 M _ zr (RR.out.row M) Tryz.underlying243 zr (by rw [MS.out];exact cinfo64) ?_
   exact ⟨by rw [HM.out],below_row BB.out (by omega) M⟩
end Sha
end Go.Proofs.YtlhnegbjoncieaaGreatDoor
namespace Go.Proofs.YtlhnegbjoncieaaGreatDoor
namespace Sha
open Go.RowKit Mem
structure W3 (L:List (BitVec 32)) (J:List Value) (bw:Nat) (w wA wr:World):Prop where
 a:At wr bw (u32s L++J).toArray 36
 o:But bw wA wr
 b:Below w.heap.size w wr
theorem ncOf_size (e:BitVec 32) (b:BitVec 64):(ncOf e b).size=12:=by simp [ncOf,u8s,cnonce_length]
theorem ncOf_one (e:BitVec 32) (b:BitVec 64):(ncOf e b).all (·.oneCell')=true:=u8s_one _
def lo32 (b:BitVec 64):BitVec 32:=b.setWidth 32
def hi32 (b:BitVec 64):BitVec 32:=(b >>> 32).setWidth 32
theorem lo_val (b:BitVec 64):(b.toNat:Int) % 4294967296=V (lo32 b):=by
 unfold V lo32
 rw [BitVec.toNat_setWidth]
 omega
theorem hi_val (b:BitVec 64):(b.toNat:Int) / 4294967296=V (hi32 b):=by
 have:=b.isLt
 unfold V hi32
 rw [BitVec.toNat_setWidth,BitVec.toNat_ushiftRight,Nat.shiftRight_eq_div_pow]
 omega
theorem wb_lo (b:BitVec 64) (j:Nat) (h:j < 4):wb (lo32 b) (8*j)=wb64 b (8*j):=by
 unfold wb lo32 wb64
 apply BitVec.eq_of_getLsbD_eq
 intro i hi
 have h8:8*j+i < 32:=by omega
 simp [BitVec.getLsbD_ushiftRight,hi,h8]
theorem wb_hi (b:BitVec 64) (j:Nat) (h:j < 4):wb (hi32 b) (8*j)=wb64 b (8*(4+j)):=by
 unfold wb hi32 wb64
 apply BitVec.eq_of_getLsbD_eq
 intro i hi
 have h8:8*j+i < 32:=by omega
 have h9:32+(8*j+i)=8*(4+j)+i:=by omega
 simp [BitVec.getLsbD_ushiftRight,hi,h8,h9]
theorem cnonce_row (e:BitVec 32) (b:BitVec 64) :
 put4 (put4 (put4 (List.replicate 12 0) 0 e 4) 4 (lo32 b) 4) 8 (hi32 b) 4=cnonce e b:=by
 have hl:=cnonce_length e b
 have h1:=put4_row (cnonce e b) 12 0 e hl (by decide) (fun j hj=>by rw [Nat.zero_add];exact cnonce_low e b j hj) 4 (by decide)
 have h2:=put4_row (cnonce e b) 12 4 (lo32 b) hl (by decide) (fun j hj=>by rw [cnonce_high e b j (by omega),wb_lo b j hj]) 4 (by decide)
 have h3:=put4_row (cnonce e b) 12 8 (hi32 b) hl (by decide) (fun j hj=>by rw [show 8+j=4+(4+j) by omega,cnonce_high e b (4+j) (by omega),wb_hi b j hj]) 4 (by decide)
 have h0:rowZ (cnonce e b) 12 0=List.replicate 12 0:=by simp [rowZ]
 rw [h0] at h1
 rw [h1,h2,h3]
 exact rowZ_all _ 12 hl
theorem nonce_any (e:BitVec 32) (b:BitVec 64) (w:World) :
 Calls Tryz.prog 141 #[.int .u32 (V e),.int .u64 (b.toNat:Int)] w fun o w'=>o=.returned (.agg (ncOf e b))∧Below w.heap.size w w':=by
 obtain ⟨X,hX⟩:∃ X,X=Z12:=⟨_,rfl⟩
 have hx:=zero12
 rw [←hX] at hx
 have hXs:X.size=12:=by rw [hX];simp [Z12,u8s]
 obtain ⟨l0,h0⟩:∃ l,l=(List.replicate 12 0:Lb8):=⟨_,rfl⟩
 obtain ⟨l1,h1⟩:∃ l,l=put4 l0 0 e 4:=⟨_,rfl⟩
 obtain ⟨l2,h2⟩:∃ l,l=put4 l1 4 (lo32 b) 4:=⟨_,rfl⟩
 obtain ⟨l3,h3⟩:∃ l,l=put4 l2 8 (hi32 b) 4:=⟨_,rfl⟩
 have e0:l0.length=12:=by rw [h0];simp
 have e1:l1.length=12:=by rw [h1,put4_length,e0]
 have e2:l2.length=12:=by rw [h2,put4_length,e1]
 have hend:l3=cnonce e b:=by rw [h3,h2,h1,h0];exact cnonce_row e b
 have p1:=fun wx bx (h:At wx bx (u8s l0).toArray 226)=>putWord_any e l0 bx 0 12 12 226 wx h (by decide) (by rw [e0];decide)
 have p2:=fun wx bx (h:At wx bx (u8s l1).toArray 226)=>putWord_any (lo32 b) l1 bx 4 8 8 226 wx h (by decide) (by rw [e1];decide)
 have p3:=fun wx bx (h:At wx bx (u8s l2).toArray 226)=>putWord_any (hi32 b) l2 bx 8 4 4 226 wx h (by decide) (by rw [e2];decide)
 rw [←h1] at p1;rw [←h2] at p2;rw [←h3] at p3
 have hX0:(u8s l0).toArray=X:=by rw [hX,h0];rfl
 have a1:At ((w.alloc (.cells X 226)).alloc (.cells X 226)) (w.heap.size+1) (u8s l0).toArray 226:=by
  have h:=at_new (w.alloc (.cells X 226)) X 226
  rw [hX0];simpa using h
 have r1:At ((w.alloc (.cells X 226)).alloc (.cells X 226)) w.heap.size X 226:=(at_new w X _).alloc _
 have b1:Below w.heap.size w ((w.alloc (.cells X 226)).alloc (.cells X 226)):=((Below.refl _ _).alloc (Nat.le_refl _) _).alloc (by simp) _
 have P1:=zh p1;have P2:=zh p2;have P3:=zh p3;have EN:=zh hend;have XS:=zh hXs;have A1:=zh a1;have R1:=zh r1;have B1:=zh b1
 have ve0:=V_lo e
 have vb0:0≤(b.toNat:Int):=Int.natCast_nonneg _
 clear p1 p2 p3 hend hXs a1 r1 b1 h0 h1 h2 h3 e0 e1 e2 hX hX0
 go_enter Tryz.func141,Tryz.ntmps141
 go_wp2_with fail
 clear hx
 generalize (w.alloc (.cells X 226)).alloc (.cells X 226)=w2 at *
 refine (P1.out _ _ A1.out).mono ?_
 rintro o w3 ⟨rfl,hp⟩
 have A2:=zh hp.a;have R2:=zh (R1.out.but hp.o (by omega));have B2:=zh (hp.k _ _ B1.out (by omega))
 clear hp A1 R1 B1 P1
 go_wp2_with fail
 rw [lo_val]
 refine (P2.out _ _ A2.out).mono ?_
 rintro o w4 ⟨rfl,hp⟩
 have A3:=zh hp.a;have R3:=zh (R2.out.but hp.o (by omega));have B3:=zh (hp.k _ _ B2.out (by omega))
 clear hp A2 R2 B2 P2
 go_wp2_with fail
 rw [hi_val]
 refine (P3.out _ _ A3.out).mono ?_
 rintro o w5 ⟨rfl,hp⟩
 have ha:=hp.a
 obtain ⟨M,hM⟩:∃ M,M=ncOf e b:=⟨_,rfl⟩
 rw [show (u8s l3).toArray=M by rw [hM,EN.out];rfl] at ha
 have hMs:M.size=12:=by rw [hM];exact ncOf_size _ _
 have hMo:M.all (·.oneCell')=true:=by rw [hM];exact ncOf_one _ _
 have A4:=zh ha;have R4:=zh (R3.out.but hp.o (by omega));have B4:=zh (hp.k _ _ B3.out (by omega));have HM:=zh hM;have MS:=zh hMs;have MO:=zh hMo
 clear hp ha A3 R3 B3 P3 hM hMs hMo
 go_wp2_with (first | (refine wpList_load_all zr 226 _ zr (w.heap.size+1) zr _ Tryz.underlying226 zr M _ A4.out (by rw [MS.out];exact info12) ?_) | (refine wpList_store_all zr 226 _ _ zr zr w.heap.size M zr zr (by rw [MS.out];exact info12) _ _ R4.out (by rw [MS.out,XS.out]) MO.out ?_))
 try simp only [Exit.inBlock,Exit.then]
 refine ret_row zr w.heap.size 226 M _ zr (R4.out.row M) Tryz.underlying226 zr (by rw [MS.out];exact info12) ?_
 exact ⟨by rw [HM.out],below_row B4.out (by omega) M⟩
end Sha
end Go.Proofs.YtlhnegbjoncieaaGreatDoor
