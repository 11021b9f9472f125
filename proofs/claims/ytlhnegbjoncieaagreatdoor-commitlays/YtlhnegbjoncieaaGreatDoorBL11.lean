/- The walk of a state's pad. The walk of a state's Sum. -/
import Derived.Test.YtlhnegbjoncieaaGreatDoorBL07
import Derived.Test.YtlhnegbjoncieaaGreatDoorBL04
set_option maxRecDepth 100000
set_option maxHeartbeats 1000000
namespace Go.Proofs.YtlhnegbjoncieaaGreatDoor
namespace Sha
open Go.RowKit Mem
def Z72:Array Value:=(u8s (List.replicate 72 0)).toArray
theorem zero72 (w:World):(zeroValue 284).run Tryz.prog w=.ok (.agg Z72) w:=by kernel_rfl
theorem Z72_set:Z72.setIfInBounds 0 (.int .u8 128)=(u8s P0).toArray:=by
 unfold Z72 P0
 have:(List.replicate 72 (0:BitVec 8))=0::List.replicate 71 0:=rfl
 rw [this]
 have e:=u8s_set (0::List.replicate 71 0) 0 128
 simpa using e
theorem lenByte_val (n j:Nat):((n:Int)*8 / 2 ^ (56 - 8*j) % (256:Int))=((lenByte (n*8) j).toNat:Int):=by
 unfold lenByte
 rw [BitVec.toNat_ofNat]
 show _=((n*8 / 2 ^ (56 - 8*j) % 256:Nat):Int)
 rw [Int.natCast_emod,Int.natCast_ediv,Int.natCast_mul,Int.natCast_pow];rfl
structure PInv (B:Nat) (C:Array Value) (l:Lb8) (w wr:World):Prop where
 c:At wr B C 245
 z:At wr (B+1) Zst 245
 p:At wr (B+2) (u8s l).toArray 284
 b:Below B w wr
theorem pad_any (s:Fed) (hs:Ok s) (n:Nat) (hn:n % 64=s.at') (w:World) (hN:n≤1152921504606846975) (hL:Tabs w) :
 Calls Tryz.prog 182 #[.agg (stRow s.H s.T n)] w fun e w'=>e=.returned (.agg (stRow (feeds s (padBytes n)).H (feeds s (padBytes n)).T (n+(padBytes n).length)))∧Below w.heap.size w w':=by
 obtain ⟨C,hC⟩:∃ C,C=stRow s.H s.T n:=⟨_,rfl⟩
 obtain ⟨Z,hZ⟩:∃ Z,Z=Zst:=⟨_,rfl⟩
 obtain ⟨X,hX⟩:∃ X,X=Z72:=⟨_,rfl⟩
 have hz:=zeroSt
 have hx:=zero72
 rw [←hZ] at hz
 rw [←hX] at hx
 have hwr:=fun (wx:World) (v:Value) (hv:Sl wx v (padBytes n)) (ht:Tabs wx)=>write_any s hs n hn (padBytes n) v wx (by have:=padQ_bd (n % 64) (Nat.mod_lt _ (by decide));rw [padBytes_length];omega) hv ht
 rw [←hC] at hwr ⊢
 have hsz:C.size=73:=by rw [hC];exact stRow_size hs.h hs.t
 have h72:C[72]?=some (.int .u64 (n:Int)):=by rw [hC];exact stRow_n hs.h hs.t
 have hmod:((n % 64:Nat):Int)=(s.at':Int):=by rw [hn]
 have X0:X[0]?=some (.int .u8 0):=by rw [hX];simp [Z72,u8s]
 have aC:At (((w.alloc (.cells C 245)).alloc (.cells Z 245)).alloc (.cells (X.setIfInBounds 0 (.int .u8 128)) 284)) w.heap.size C 245:=((at_new w C _).alloc _).alloc _
 have aZ:At (((w.alloc (.cells C 245)).alloc (.cells Z 245)).alloc (.cells (X.setIfInBounds 0 (.int .u8 128)) 284)) (w.heap.size+1) Z 245:=by
  have:=(at_new (w.alloc (.cells C 245)) Z 245).alloc (.cells (X.setIfInBounds 0 (.int .u8 128)) 284)
  simpa using this
 have aX:At (((w.alloc (.cells C 245)).alloc (.cells Z 245)).alloc (.cells (X.setIfInBounds 0 (.int .u8 128)) 284)) (w.heap.size+2) (X.setIfInBounds 0 (.int .u8 128)) 284:=by
  have:=at_new ((w.alloc (.cells C 245)).alloc (.cells Z 245)) (X.setIfInBounds 0 (.int .u8 128)) 284
  simpa using this
 have b1:Below w.heap.size w (((w.alloc (.cells C 245)).alloc (.cells Z 245)).alloc (.cells (X.setIfInBounds 0 (.int .u8 128)) 284)):=(((Below.refl _ _).alloc (Nat.le_refl _) _).alloc (by simp) _).alloc (by simp;omega) _
 have s1:(((w.alloc (.cells C 245)).alloc (.cells Z 245)).alloc (.cells (X.setIfInBounds 0 (.int .u8 128)) 284)).heap.size=w.heap.size+3:=by simp
 have HC:=zh hC;have HZ:=zh hZ;have HX:=zh hX;have HSZ:=zh hsz;have H72:=zh h72;have HM:=zh hmod;have AC:=zh aC;have AZ:=zh aZ;have AX:=zh aX;have B1:=zh b1;have S1:=zh s1
 have HLT:=zh hL;have HS:=zh hs;have HMOD:=zh hn;have HWR:=zh hwr
 clear hC hZ hX hsz h72 hmod aC aZ aX b1 s1 hL hs hn hwr
 have TS:Hid (∀ w:World,Calls Tryz.prog 195 #[.agg C] w fun e w'=>e=.returned (.int .i64 (s.at':Int))∧Below w.heap.size w w'):=fun w=>by
  have:=tailSize_any C n w H72.out
  rw [HM.out] at this
  exact this
 obtain ⟨t,ht⟩:∃ t,t=s.at':=⟨_,rfl⟩
 rw [←ht] at TS
 have htl:t < 64:=by rw [ht];exact HS.out.a
 obtain ⟨q,hq⟩:∃ q,q=padQ (n % 64):=⟨_,rfl⟩
 have hqt:q=padQ t:=by rw [hq,ht,HMOD.out]
 have hqb:1≤q∧q≤64:=by rw [hqt];exact padQ_bd t htl
 obtain ⟨hq1,hq2⟩:=hqb
 have HT:=zh ht;have HQ:=zh hq
 clear ht hq
 by_cases h56:t < 56
 ·have hr:(56:Int) - (t:Int)=(q:Int):=by rw [hqt,padQ,if_pos h56];omega
  have hr1:decide ((q:Int) < 1)=false:=by simp;omega
  have hr2:¬ (q:Int) < 1:=by omega
  clear hqt h56
  go_enter Tryz.func182,Tryz.ntmps182
  go_wp2_with (first | (refine wpList_load_all zr 245 _ zr _ zr _ Tryz.underlying245 zr _ _ AC.out (by rw [HSZ.out];exact infoSt) ?_) | (go_at_call 195;refine (TS.out _).mono ?_;rintro e w2 ⟨rfl,hb2⟩;have a2:=AC.out.below hb2 (by rw [S1.out];omega);have c72:=(a2.cell 72).trans H72.out;have A2:=zh a2;have HB2:=zh hb2;clear a2 hb2))
  have hI0:PInv w.heap.size C P0 w w2:=by
   have hb2:=HB2.out
   rw [S1.out] at hb2
   refine ⟨A2.out,?_,?_,B1.out.trans (hb2.mono (by omega))⟩
   ·rw [←HZ.out];exact AZ.out.below hb2 (by omega)
   ·have:=AX.out.below hb2 (by omega)
    rw [HX.out,Z72_set] at this
    exact this
  have HI0:=zh hI0
  clear hI0 c72 hz hx X0
  go_loopw [6,18] (fun _ i wr=>∃ j:Nat,j≤8∧i=.int .i64 j∧PInv w.heap.size C (padRow q (n*8) j) w wr) (fun _ i _=>8 - (intOf i).toNat)
  case atStart=>exact ⟨0,by omega,rfl,HI0.out⟩
  case round=>
   obtain ⟨j,hj,rfl,hI⟩:=hrel
   by_cases hlt:j < 8
   ·have ca:∃ o,wr.cell? ⟨w.heap.size+1+1,q+j,none⟩=some (.int .u8 o):=by
     refine ⟨(((padRow q (n*8) j).getD (q+j) 0).toNat:Int),?_⟩
     rw [show w.heap.size+1+1=w.heap.size+2 from rfl,hI.p.cell,List.getElem?_toArray]
     exact u8s_get _ _ (by rw [padRow_length];omega)
    obtain ⟨o,ca⟩:=ca
    have fa:wr.frozen? ⟨w.heap.size+1+1,q+j,none⟩=false:=hI.p.free _
    have HI:=zh hI
    clear hI
    go_wp2_with fail
    go_roundw
    case rel=>
     refine ⟨j+1,by omega,by go_num,?_⟩
     rw [lenByte_val]
     have hI:=HI.out
     have hp:=hI.p.set (q+j) (.int .u8 ((lenByte (n*8) j).toNat:Int))
     rw [u8s_set] at hp
     exact ⟨hI.c.set_other _ _ (by simp;omega),hI.z.set_other _ _ (by simp),hp,hI.b.setCell (by simp;omega) _⟩
    case measure=>simp [intOf];omega
   ·have hj8:j=8:=by omega
    rw [hj8] at hI
    have hge:¬ (j:Int) < 8:=by omega
    have hpl:(padBytes n).length=q+8:=by rw [padBytes_length,HQ.out]
    have hqs:IntKind.i64.wrap ((q:Int)+8)=(q:Int)+8:=by rw [IntWalk.i64_in _ (by omega)]
    obtain ⟨R,hR⟩:∃ R,R=stRow (feeds s (padBytes n)).H (feeds s (padBytes n)).T (n+(padBytes n).length):=⟨_,rfl⟩
    have hfo:=feeds_ok (padBytes n) HS.out
    have hRs:R.size=73:=by rw [hR];exact stRow_size hfo.h hfo.t
    have hRo:R.all (·.oneCell')=true:=by rw [hR];exact stRow_one
    have hcall:Calls Tryz.prog 181 #[.agg C,.slice (some ⟨w.heap.size+1+1,0,none⟩) (q+8) 72] wr.drew fun e w'=>e=.returned (.agg R)∧Below wr.drew.heap.size wr.drew w':=by
     have hsl:Sl wr.drew (.slice (some ⟨w.heap.size+1+1,0,none⟩) (q+8) 72) (padBytes n):=by
      refine ⟨_,_,by rw [hpl],by rw [hpl];omega,fun _=>⟨_,_,rfl,hI.p.lt,fun i hi=>?_⟩⟩
      rw [hpl] at hi
      have e:=At.cell (w:=wr.drew) hI.p (0+i)
      rw [show w.heap.size+1+1=w.heap.size+2 from rfl,e,Nat.zero_add,List.getElem?_toArray,u8s_get _ i (by rw [padRow_length];omega),padBytes,←HQ.out]
      simp [List.getD_eq_getElem?_getD,hi]
     have:=HWR.out wr.drew _ hsl (HLT.out.below hI.b.drew (Nat.le_refl _))
     rw [hR];exact this
    have HI:=zh hI;have HR:=zh hR;have HRS:=zh hRs;have HRO:=zh hRo;have HCALL:=zh hcall;have HPL:=zh hpl
    clear hI hR hRs hRo hcall hpl hfo hj8 hj hlt
    go_wp2_with fail
    refine wp_region_quiet_tail 4 (by kernel_rfl) (by kernel_rfl) ?_
    simp only [List.take_succ_cons,List.take_zero,List.drop_succ_cons,List.drop_zero]
    refine wpQuiet_load_all zr 245 _ zr w.heap.size zr _ Tryz.underlying245 zr C 245 (fun w' e=>by rw [e];exact HI.out.c) (by rw [HSZ.out];exact infoSt) ?_
    simp only [Act.put,List.setIfInBounds_toArray,List.set_cons_zero,List.set_cons_succ]
    repeat (go_big_quiet_step (fail))
    refine wpQuiet_slice_arr_to zr 284 _ _ zr 72 5 Tryz.underlying284 infoB (w.heap.size+1+1) 0 (q+8) zr zr (by omega) ?_
    simp only [Act.put,List.setIfInBounds_toArray,List.set_cons_zero,List.set_cons_succ]
    refine wpQuiet_nil ?_
    go_wp2_with (first | (go_at_call 181;refine HCALL.out.mono ?_;rintro e w9 ⟨rfl,hb9⟩;have z9:=(At.drew HI.out.z).below hb9 HI.out.z.lt;have Z9:=zh z9;have HB9:=zh hb9;clear z9 hb9) | (refine wpList_store_all zr 245 _ _ zr zr (w.heap.size+1) R zr zr (by rw [HRS.out];exact infoSt) _ _ Z9.out (by rw [HRS.out,Zst_size]) HRO.out ?_))
    try simp only [Exit.inBlock,Exit.then]
    refine ret_row zr (w.heap.size+1) 245 R _ zr (Z9.out.row R) Tryz.underlying245 zr (by rw [HRS.out];exact infoSt) ?_
    have hlt9:w.heap.size≤wr.heap.size:=HI.out.b.size
    exact ⟨by rw [HR.out],below_row (HI.out.b.drew.trans (HB9.out.mono hlt9)) (by omega) R⟩
 ·obtain ⟨d,hd⟩:∃ d:Int,d=56 - (t:Int):=⟨_,rfl⟩
  have hr:(56:Int) - (t:Int)=d:=hd.symm
  have hr3:d+64=(q:Int):=by rw [hqt,padQ,if_neg h56,hd];omega
  have hr2:d < 1:=by omega
  have hr1:decide (d < 1)=true:=by simp;omega
  have hr4:-8 < d:=by omega
  clear hqt h56 hd
  go_enter Tryz.func182,Tryz.ntmps182
  go_wp2_with (first | (refine wpList_load_all zr 245 _ zr _ zr _ Tryz.underlying245 zr _ _ AC.out (by rw [HSZ.out];exact infoSt) ?_) | (go_at_call 195;refine (TS.out _).mono ?_;rintro e w2 ⟨rfl,hb2⟩;have a2:=AC.out.below hb2 (by rw [S1.out];omega);have c72:=(a2.cell 72).trans H72.out;have A2:=zh a2;have HB2:=zh hb2;clear a2 hb2))
  have hI0:PInv w.heap.size C P0 w w2:=by
   have hb2:=HB2.out
   rw [S1.out] at hb2
   refine ⟨A2.out,?_,?_,B1.out.trans (hb2.mono (by omega))⟩
   ·rw [←HZ.out];exact AZ.out.below hb2 (by omega)
   ·have:=AX.out.below hb2 (by omega)
    rw [HX.out,Z72_set] at this
    exact this
  have HI0:=zh hI0
  clear hI0 c72 hz hx X0
  go_loopw [6,18] (fun _ i wr=>∃ j:Nat,j≤8∧i=.int .i64 j∧PInv w.heap.size C (padRow q (n*8) j) w wr) (fun _ i _=>8 - (intOf i).toNat)
  case atStart=>exact ⟨0,by omega,rfl,HI0.out⟩
  case round=>
   obtain ⟨j,hj,rfl,hI⟩:=hrel
   by_cases hlt:j < 8
   ·have ca:∃ o,wr.cell? ⟨w.heap.size+1+1,q+j,none⟩=some (.int .u8 o):=by
     refine ⟨(((padRow q (n*8) j).getD (q+j) 0).toNat:Int),?_⟩
     rw [show w.heap.size+1+1=w.heap.size+2 from rfl,hI.p.cell,List.getElem?_toArray]
     exact u8s_get _ _ (by rw [padRow_length];omega)
    obtain ⟨o,ca⟩:=ca
    have fa:wr.frozen? ⟨w.heap.size+1+1,q+j,none⟩=false:=hI.p.free _
    have HI:=zh hI
    clear hI
    go_wp2_with fail
    go_roundw
    case rel=>
     refine ⟨j+1,by omega,by go_num,?_⟩
     rw [lenByte_val]
     have hI:=HI.out
     have hp:=hI.p.set (q+j) (.int .u8 ((lenByte (n*8) j).toNat:Int))
     rw [u8s_set] at hp
     exact ⟨hI.c.set_other _ _ (by simp;omega),hI.z.set_other _ _ (by simp),hp,hI.b.setCell (by simp;omega) _⟩
    case measure=>simp [intOf];omega
   ·have hj8:j=8:=by omega
    rw [hj8] at hI
    have hge:¬ (j:Int) < 8:=by omega
    have hpl:(padBytes n).length=q+8:=by rw [padBytes_length,HQ.out]
    have hqs:IntKind.i64.wrap ((q:Int)+8)=(q:Int)+8:=by rw [IntWalk.i64_in _ (by omega)]
    obtain ⟨R,hR⟩:∃ R,R=stRow (feeds s (padBytes n)).H (feeds s (padBytes n)).T (n+(padBytes n).length):=⟨_,rfl⟩
    have hfo:=feeds_ok (padBytes n) HS.out
    have hRs:R.size=73:=by rw [hR];exact stRow_size hfo.h hfo.t
    have hRo:R.all (·.oneCell')=true:=by rw [hR];exact stRow_one
    have hcall:Calls Tryz.prog 181 #[.agg C,.slice (some ⟨w.heap.size+1+1,0,none⟩) (q+8) 72] wr.drew fun e w'=>e=.returned (.agg R)∧Below wr.drew.heap.size wr.drew w':=by
     have hsl:Sl wr.drew (.slice (some ⟨w.heap.size+1+1,0,none⟩) (q+8) 72) (padBytes n):=by
      refine ⟨_,_,by rw [hpl],by rw [hpl];omega,fun _=>⟨_,_,rfl,hI.p.lt,fun i hi=>?_⟩⟩
      rw [hpl] at hi
      have e:=At.cell (w:=wr.drew) hI.p (0+i)
      rw [show w.heap.size+1+1=w.heap.size+2 from rfl,e,Nat.zero_add,List.getElem?_toArray,u8s_get _ i (by rw [padRow_length];omega),padBytes,←HQ.out]
      simp [List.getD_eq_getElem?_getD,hi]
     have:=HWR.out wr.drew _ hsl (HLT.out.below hI.b.drew (Nat.le_refl _))
     rw [hR];exact this
    have HI:=zh hI;have HR:=zh hR;have HRS:=zh hRs;have HRO:=zh hRo;have HCALL:=zh hcall;have HPL:=zh hpl
    clear hI hR hRs hRo hcall hpl hfo hj8 hj hlt
    go_wp2_with fail
    refine wp_region_quiet_tail 4 (by kernel_rfl) (by kernel_rfl) ?_
    simp only [List.take_succ_cons,List.take_zero,List.drop_succ_cons,List.drop_zero]
    refine wpQuiet_load_all zr 245 _ zr w.heap.size zr _ Tryz.underlying245 zr C 245 (fun w' e=>by rw [e];exact HI.out.c) (by rw [HSZ.out];exact infoSt) ?_
    simp only [Act.put,List.setIfInBounds_toArray,List.set_cons_zero,List.set_cons_succ]
    repeat (go_big_quiet_step (fail))
    refine wpQuiet_slice_arr_to zr 284 _ _ zr 72 5 Tryz.underlying284 infoB (w.heap.size+1+1) 0 (q+8) zr zr (by omega) ?_
    simp only [Act.put,List.setIfInBounds_toArray,List.set_cons_zero,List.set_cons_succ]
    refine wpQuiet_nil ?_
    go_wp2_with (first | (go_at_call 181;refine HCALL.out.mono ?_;rintro e w9 ⟨rfl,hb9⟩;have z9:=(At.drew HI.out.z).below hb9 HI.out.z.lt;have Z9:=zh z9;have HB9:=zh hb9;clear z9 hb9) | (refine wpList_store_all zr 245 _ _ zr zr (w.heap.size+1) R zr zr (by rw [HRS.out];exact infoSt) _ _ Z9.out (by rw [HRS.out,Zst_size]) HRO.out ?_))
    try simp only [Exit.inBlock,Exit.then]
    refine ret_row zr (w.heap.size+1) 245 R _ zr (Z9.out.row R) Tryz.underlying245 zr (by rw [HRS.out];exact infoSt) ?_
    have hlt9:w.heap.size≤wr.heap.size:=HI.out.b.size
    exact ⟨by rw [HR.out],below_row (HI.out.b.drew.trans (HB9.out.mono hlt9)) (by omega) R⟩
def Z32:Array Value:=(u8s (List.replicate 32 0)).toArray
theorem zero32 (w:World):(zeroValue 22).run Tryz.prog w=.ok (.agg Z32) w:=by kernel_rfl
theorem info32:(Tryz.prog.info? 22).map (·.size)=some 32:=by kernel_rfl
structure DInv (B Bd:Nat) (l:Lb8) (w wr:World):Prop where
 z:At wr (B+1) Z32 22
 d:At wr Bd (u8s l).toArray 22
 tabs:Tabs wr
 b:Below B w wr
theorem sum_any (s:Fed) (hs:Ok s) (n:Nat) (hn:n % 64=s.at') (w:World) (hN:n≤1152921504606846975) (hL:Tabs w) :
 Calls Tryz.prog 162 #[.agg (stRow s.H s.T n)] w fun e w'=>e=.returned (.agg (u8s (digest s n)).toArray)∧Below w.heap.size w w':=by
 obtain ⟨C,hC⟩:∃ C,C=stRow s.H s.T n:=⟨_,rfl⟩
 obtain ⟨X,hX⟩:∃ X,X=Z32:=⟨_,rfl⟩
 obtain ⟨Z,hZ⟩:∃ Z,Z=Zst:=⟨_,rfl⟩
 obtain ⟨f,hf⟩:∃ f,f=feeds s (padBytes n):=⟨_,rfl⟩
 obtain ⟨E,hE⟩:∃ E,E=stRow f.H f.T (n+(padBytes n).length):=⟨_,rfl⟩
 obtain ⟨FR,hFR⟩:∃ FR,FR=(u32s f.H).toArray:=⟨_,rfl⟩
 have hfo:Ok f:=by rw [hf];exact feeds_ok _ hs
 have hz:=zeroSt
 have hx:=zero32
 rw [←hX] at hx
 rw [←hZ] at hz
 have hpad:=fun wx (ht:Tabs wx)=>pad_any s hs n hn wx hN ht
 rw [←hf,←hE] at hpad
 rw [←hC] at hpad ⊢
 have hsz:C.size=73:=by rw [hC];exact stRow_size hs.h hs.t
 have hEs:E.size=73:=by rw [hE];exact stRow_size hfo.h hfo.t
 have hEo:E.all (·.oneCell')=true:=by rw [hE];exact stRow_one
 have hE2:E.extract 0 (0+8)=FR:=by rw [hE,hFR];exact stRow_H hfo.h
 have hZs:Z.size=73:=by rw [hZ];exact Zst_size
 have aC:At ((w.alloc (.cells C 245)).alloc (.cells X 22)) w.heap.size C 245:=(at_new w C _).alloc _
 have aX:At ((w.alloc (.cells C 245)).alloc (.cells X 22)) (w.heap.size+1) X 22:=by
  have:=at_new (w.alloc (.cells C 245)) X 22
  simpa using this
 have b1:Below w.heap.size w ((w.alloc (.cells C 245)).alloc (.cells X 22)):=((Below.refl _ _).alloc (Nat.le_refl _) _).alloc (by simp) _
 have s1:((w.alloc (.cells C 245)).alloc (.cells X 22)).heap.size=w.heap.size+2:=by simp
 have hcall:=hpad _ (hL.below b1 (Nat.le_refl _))
 have HC:=zh hC;have HX:=zh hX;have HZ:=zh hZ;have HF:=zh hf;have HE:=zh hE;have HFR:=zh hFR;have HFO:=zh hfo;have HSZ:=zh hsz;have HES:=zh hEs;have HEO:=zh hEo;have HE2:=zh hE2;have HZS:=zh hZs;have AC:=zh aC;have AX:=zh aX;have B1:=zh b1;have S1:=zh s1;have HCALL:=zh hcall;have HL:=zh hL
 clear hC hX hZ hf hE hFR hfo hsz hEs hEo hE2 hZs aC aX b1 s1 hcall hL hs hn hpad
 go_enter Tryz.func162,Tryz.ntmps162
 go_wp2_with (first | (refine wpList_load_all zr 245 _ zr w.heap.size zr _ Tryz.underlying245 zr C _ AC.out (by rw [HSZ.out];exact infoSt) ?_) | (go_at_call 182;refine HCALL.out.mono ?_;rintro e w2 ⟨rfl,hb2⟩;have HB2:=zh hb2;clear hb2) | (refine wpList_store_new zr 245 _ _ zr zr E _ _ zr zr (by rw [HES.out];exact infoSt) (by rw [HES.out,HZS.out]) HEO.out ?_) | (refine wpList_load_is zr 242 _ zr w2.heap.size 0 8 zr _ Tryz.underlying242 zr info8 E 245 ((at_new w2 E _).alloc _) (by rw [HES.out];decide) FR HE2.out ?_))
 have hI:DInv w.heap.size (w2.heap.size+1) (List.replicate 32 0) w ((w2.alloc (.cells E 245)).alloc (.cells X 22)):=by
  have hb2:=HB2.out
  rw [S1.out] at hb2
  have hs2:=hb2.size
  rw [S1.out] at hs2
  have bb:Below w.heap.size w w2:=B1.out.trans (hb2.mono (by omega))
  have bb':Below w.heap.size w ((w2.alloc (.cells E 245)).alloc (.cells X 22)):=(bb.alloc (by omega) _).alloc (by simp;omega) _
  refine ⟨?_,?_,HL.out.below bb' (Nat.le_refl _),bb'⟩
  ·rw [←HX.out];exact ((AX.out.below hb2 (by omega)).alloc _).alloc _
  ·have:=at_new (w2.alloc (.cells E 245)) X 22
   have e:(w2.alloc (.cells E 245)).heap.size=w2.heap.size+1:=by simp
   rw [e] at this
   have e2:(u8s (List.replicate 32 0)).toArray=X:=by rw [HX.out];rfl
   rw [e2]
   exact this
 have hBp:w.heap.size+2≤w2.heap.size:=by have:=HB2.out.size;rw [S1.out] at this;exact this
 have HI0:=zh hI
 clear hI HB2 hz hx
 generalize (w2.alloc (.cells E 245)).alloc (.cells X 22)=w3 at *
 generalize w2.heap.size=Bp at *
 clear w2
 obtain ⟨l,hl⟩:∃ l,l=adds f.H IVl:=⟨_,rfl⟩
 have HLL:=zh hl;clear hl
 go_loopw [5,6,11] (fun _ _ i wr=>∃ j:Nat,j≤8∧i=.int .i64 j∧DInv w.heap.size (Bp+1) (dRow l j) w wr) (fun _ _ i _=>8 - (intOf i).toNat)
 case atStart=>exact ⟨0,by omega,rfl,HI0.out⟩
 case round=>
  obtain ⟨j,hj,rfl,hI⟩:=hrel
  by_cases hlt:j < 8
  ·have cg:wr.cell? ⟨0,j,none⟩=some (.int .u32 (V (IVl.getD j 0))):=hI.tabs.f.2 j hlt
   obtain ⟨y,hy⟩:∃ y,y=IVl.getD j 0:=⟨_,rfl⟩
   rw [←hy] at cg
   have hjv:FR[j]?=some (.int .u32 (V (f.H.getD j 0))):=by rw [HFR.out,List.getElem?_toArray];exact u32s_get f.H j (by rw [HFO.out.h];exact hlt)
   obtain ⟨x,hx⟩:∃ x,x=f.H.getD j 0:=⟨_,rfl⟩
   rw [←hx] at hjv
   have hd0:=hI.d
   obtain ⟨R0,hR0⟩:∃ R,R=(u8s (dRow l j)).toArray:=⟨_,rfl⟩
   have hR0s:R0.size=32:=by rw [hR0];simp [u8s,dRow_length]
   rw [←hR0] at hd0
   have i0:4*j < R0.size:=by omega
   have i1:4*j+1 < R0.size:=by omega
   have i2:4*j+2 < R0.size:=by omega
   have i3:4*j+3 < R0.size:=by omega
   have D0:=zh hd0;have HR0:=zh hR0;have I0:=zh i0;have I1:=zh i1;have I2:=zh i2;have I3:=zh i3
   clear hd0 hR0 hR0s i0 i1 i2 i3
   have e0:(V x+V y) % (4294967296:Int) / (16777216:Int)=((wb (x+y) 24).toNat:Int):=by
    rw [r_add,←wb24];have:=V_lo (x+y);have:=V_hi (x+y);omega
   have e1:(V x+V y) % (4294967296:Int) / (65536:Int) % (256:Int)=((wb (x+y) 16).toNat:Int):=by rw [r_add,←wb16]
   have e2:(V x+V y) % (4294967296:Int) / (256:Int) % (256:Int)=((wb (x+y) 8).toNat:Int):=by rw [r_add,←wb8]
   have e3:(V x+V y) % (256:Int)=((wb (x+y) 0).toNat:Int):=by rw [←wb0,←r_add];omega
   have e4:(V x+V y) % (4294967296:Int) % (256:Int)=((wb (x+y) 0).toNat:Int):=by rw [r_add,←wb0]
   have E4:=zh e4;clear e4
   have E0:=zh e0;have E1:=zh e1;have E2:=zh e2;have E3:=zh e3
   clear e0 e1 e2 e3
   have HI:=zh hI;have HYY:=zh hy;have HXX:=zh hx;have HJV:=zh hjv
   clear hI hy hx hjv
   go_wp2_with (first | (refine wpList_index_row zr 242 _ _ zr 8 36 Tryz.underlying242 _ Tryz.underlying36 zr infoW FR j zr zr hlt _ HJV.out ?_) | (refine Mem.wpList_store_one zr 5 _ _ zr zr (Bp+1) (4*j) (.int .u8 ((wb (x+y) 24).toNat:Int)) zr (by exact congrArg (Value.int .u8) E0.out) zr infoB _ _ D0.out (by simpa using I0.out) ?_;intro w4 a4 o4 b4;have D4:=zh a4;have O4:=zh o4;have B4:=zh b4;clear a4 o4 b4) | (refine Mem.wpList_store_one zr 5 _ _ zr zr (Bp+1) (4*j+1) (.int .u8 ((wb (x+y) 16).toNat:Int)) zr (by exact congrArg (Value.int .u8) E1.out) zr infoB _ _ D4.out (by simpa using I1.out) ?_;intro w5 a5 o5 b5;have D5:=zh a5;have O5:=zh o5;have B5:=zh b5;clear a5 o5 b5) | (refine Mem.wpList_store_one zr 5 _ _ zr zr (Bp+1) (4*j+2) (.int .u8 ((wb (x+y) 8).toNat:Int)) zr (by exact congrArg (Value.int .u8) E2.out) zr infoB _ _ D5.out (by simpa using I2.out) ?_;intro w6 a6 o6 b6;have D6:=zh a6;have O6:=zh o6;have B6:=zh b6;clear a6 o6 b6) | (refine Mem.wpList_store_one zr 5 _ _ zr zr (Bp+1) (4*j+3) (.int .u8 ((wb (x+y) 0).toNat:Int)) zr (by first | exact congrArg (Value.int .u8) E3.out | exact congrArg (Value.int .u8) E4.out) zr infoB _ _ D6.out (by simpa using I3.out) ?_;intro w7 a7 o7 b7;have D7:=zh a7;have O7:=zh o7;have B7:=zh b7;clear a7 o7 b7))
   go_roundw
   case rel=>
    refine ⟨j+1,by omega,by go_num,?_⟩
    have hI:=HI.out
    have hd:=D7.out
    have hz:(adds f.H IVl).getD j 0=x+y:=by
     have h1:j < f.H.length:=by rw [HFO.out.h];exact hlt
     have h2:j < IVl.length:=hlt
     rw [HXX.out,HYY.out]
     simp only [adds,List.getD_eq_getElem?_getD,List.getElem?_zipWith,List.getElem?_eq_getElem h1,List.getElem?_eq_getElem h2,Option.getD_some]
    have e:(((R0.setIfInBounds (4*j) (.int .u8 ((wb (x+y) 24).toNat:Int))).setIfInBounds (4*j+1) (.int .u8 ((wb (x+y) 16).toNat:Int))).setIfInBounds (4*j+2) (.int .u8 ((wb (x+y) 8).toNat:Int))).setIfInBounds (4*j+3) (.int .u8 ((wb (x+y) 0).toNat:Int))=(u8s (dRow l (j+1))).toArray:=by
     rw [HR0.out,u8s_set,u8s_set,u8s_set,u8s_set,dRow,HLL.out,hz]
    rw [e] at hd
    have keep:∀ k,k≠Bp+1→w7.heap[k]?=wr.heap[k]?:=fun k hk=>by rw [O7.out k hk,O6.out k hk,O5.out k hk,O4.out k hk]
    have hb:=B7.out _ _ (B6.out _ _ (B5.out _ _ (B4.out _ _ hI.b (by omega)) (by omega)) (by omega)) (by omega)
    have hk0:=HL.out.k.1
    have hf0:=HL.out.f.1
    exact ⟨at_keep hI.z keep (by omega),hd,⟨hI.tabs.k.keep keep (by omega),hI.tabs.f.keep keep (by omega)⟩,hb⟩
   case measure=>simp [intOf];omega
  ·have hj8:j=8:=by omega
   rw [hj8] at hI
   have hge:¬ (j:Int) < 8:=by omega
   have hd:=hI.d
   obtain ⟨G,hG⟩:∃ G,G=(u8s (dRow l 8)).toArray:=⟨_,rfl⟩
   rw [←hG] at hd
   have hGs:G.size=32:=by rw [hG];simp [u8s,dRow_length]
   have hGo:G.all (·.oneCell')=true:=by rw [hG];exact u8s_one _
   have hfin:(u8s (digest s n)).toArray=G:=by rw [hG,digest,←HF.out,HLL.out]
   have HI:=zh hI;have HD:=zh hd;have HGS:=zh hGs;have HGO:=zh hGo;have HFIN:=zh hfin
   clear hI hd hG hGs hGo hfin hj8 hj hlt
   go_wp2_with (first | (refine wpList_load_all zr 22 _ zr (Bp+1) zr _ Tryz.underlying22 zr G _ HD.out (by rw [HGS.out];exact info32) ?_) | (refine wpList_store_all zr 22 _ _ zr zr (w.heap.size+1) G zr zr (by rw [HGS.out];exact info32) _ _ HI.out.z (by rw [HGS.out];simp [Z32,u8s]) HGO.out ?_))
   try simp only [Exit.inBlock,Exit.then]
   refine ret_row zr (w.heap.size+1) 22 G _ zr (HI.out.z.row G) Tryz.underlying22 zr (by rw [HGS.out];exact info32) ?_
   exact ⟨by rw [HFIN.out],below_row HI.out.b (by omega) G⟩
end Sha
end Go.Proofs.YtlhnegbjoncieaaGreatDoor
