/- My own texts, merged. -/
import Derived.Test.YtlhnegbjoncieaaGreatDoorBL01
import Derived.Test.YtlhnegbjoncieaaGreatDoorBL00
import Derived.Test.YtlhnegbjoncieaaGreatDoorBL02
set_option maxRecDepth 100000
set_option maxHeartbeats 1000000
namespace Go.Proofs.YtlhnegbjoncieaaGreatDoor
namespace Sha
open Go.RowKit Mem
def wrow (l:List (BitVec 32)):Array Value:=(u32s (l++List.replicate (64 - l.length) 0)).toArray
def Z64:Array Value:=wrow []
theorem zero64 (w:World):(zeroValue 295).run Tryz.prog w=.ok (.agg Z64) w:=by kernel_rfl
theorem wrow_get (l:List (BitVec 32)) (i:Nat) (h:i < 64) (hl:l.length≤64):(wrow l)[i]?=some (.int .u32 (V (l.getD i 0))):=by
 unfold wrow
 rw [List.getElem?_toArray]
 rw [u32s_get _ i (by simp;omega)]
 have e:(l++List.replicate (64 - l.length) 0).getD i 0=l.getD i 0:=?_
 ·rw [e]
 simp only [List.getD_eq_getElem?_getD,List.getElem?_append]
 split
 ·rfl
 ·rename_i h'
  rw [List.getElem?_replicate,List.getElem?_eq_none (by omega)]
  split <;> rfl
theorem wrow_set (l:List (BitVec 32)) (x:BitVec 32) (hl:l.length < 64):(wrow l).setIfInBounds l.length (.int .u32 (V x))=wrow (l++[x]):=by
 unfold wrow u32s
 rw [List.setIfInBounds_toArray]
 congr 1
 have e:64 - l.length=(64 - (l++[x]).length)+1:=by simp;omega
 rw [e,List.replicate_succ]
 simp
theorem wrow_size (l:List (BitVec 32)) (h:l.length≤64):(wrow l).size=64:=by
 simp [wrow,u32s];omega
theorem info64:(Tryz.prog.info? 295).map (·.size)=some 64:=by kernel_rfl
structure SInv (B:Nat) (A:Array Value) (l:List (BitVec 32)) (w wr:World):Prop where
 a:At wr B A 243
 r:At wr (B+1) Z64 295
 v:At wr (B+2) (wrow l) 295
 b:Below B w wr
theorem sched_any (T:Lb8) (hT:T.length=64) (w:World) :
 Calls Tryz.prog 203 #[.agg (u8s T).toArray] w fun e w'=>e=.returned (.agg (u32s (sched T)).toArray)∧Below w.heap.size w w':=by
 obtain ⟨A,hA⟩:∃ A,A=(u8s T).toArray:=⟨_,rfl⟩
 obtain ⟨Z,hZ⟩:∃ Z,Z=Z64:=⟨_,rfl⟩
 rw [←hA]
 have hz:=zero64
 rw [←hZ] at hz
 have HA:=zh hA;have HZ:=zh hZ;have HT:=zh hT;clear hA hZ hT
 go_enter Tryz.func203,Tryz.ntmps203
 go_wp2_with fail
 go_loopw [4,10] (fun _ v10 wr=>∃ k:Nat,k≤16∧v10=.int .i64 k∧SInv w.heap.size A (wds T k) w wr) (fun _ v10 _=>16 - (intOf v10).toNat)
 case atStart=>
  refine ⟨0,by omega,rfl,?_,?_,?_,?_⟩
  ·exact ((at_new w A _).alloc _).alloc _
  ·rw [←HZ.out]
   have:=(at_new (w.alloc (.cells A 243)) Z 295).alloc (.cells Z 295)
   simpa using this
  ·have e:wrow (wds T 0)=Z:=HZ.out.symm
   rw [e]
   have:=at_new ((w.alloc (.cells A 243)).alloc (.cells Z 295)) Z 295
   simpa using this
  ·exact (((Below.refl _ _).alloc (Nat.le_refl _) _).alloc (by simp) _).alloc (by simp;omega) _
 case round=>
  obtain ⟨k,hk,rfl,hI⟩:=hrel
  by_cases hlt:k < 16
  ·have key:∀ j,j < 4→wr.cell? ⟨w.heap.size,4*k+j,none⟩=some (.int .u8 ((T.getD (4*k+j) 0).toNat:Int)):=fun j hj=>by
    rw [hI.a.cell,HA.out,List.getElem?_toArray]
    exact u8s_get T _ (by rw [HT.out];omega)
   have c0:=key 0 (by omega)
   have c1:=key 1 (by omega)
   have c2:=key 2 (by omega)
   have c3:=key 3 (by omega)
   clear key
   obtain ⟨b0,e0⟩:∃ b,b=T.getD (4*k) 0:=⟨_,rfl⟩
   obtain ⟨b1,e1⟩:∃ b,b=T.getD (4*k+1) 0:=⟨_,rfl⟩
   obtain ⟨b2,e2⟩:∃ b,b=T.getD (4*k+2) 0:=⟨_,rfl⟩
   obtain ⟨b3,e3⟩:∃ b,b=T.getD (4*k+3) 0:=⟨_,rfl⟩
   rw [Nat.add_zero,←e0] at c0
   rw [←e1] at c1
   rw [←e2] at c2
   rw [←e3] at c3
   have E:=zh (And.intro e0 (And.intro e1 (And.intro e2 e3)))
   clear e0 e1 e2 e3
   have l0:=b0.isLt
   have l1:=b1.isLt
   have l2:=b2.isLt
   have l3:=b3.isLt
   have hf:wr.frozen? ⟨w.heap.size+1+1,k,none⟩=false:=hI.v.free k
   have hdr:wr.drew.heap=wr.heap:=rfl
   have hc:wr.cell? ⟨w.heap.size+1+1,k,none⟩=some (.int .u32 0):=by
    rw [show w.heap.size+1+1=w.heap.size+2 from rfl,hI.v.cell,wrow_get _ k (by omega) (by rw [wds_length];omega)]
    rw [List.getD_eq_getElem?_getD,List.getElem?_eq_none (by rw [wds_length];omega)];rfl
   go_wp2_with fail
   refine wp_region_quiet_tail 31 (by kernel_rfl) (by kernel_rfl) ?_
   simp only [List.take_succ_cons,List.take_zero,List.drop_succ_cons,List.drop_zero]
   repeat (go_big_quiet_step (fail))
   refine wpQuiet_nil ?_
   go_wp2_with fail
   go_roundw
   case rel=>
    refine ⟨k+1,by omega,by go_num,?_⟩
    rw [word_val]
    refine ⟨(hI.a.set_other _ _ (by simp;omega)).drew,(hI.r.set_other _ _ (by simp)).drew,?_,(hI.b.setCell (by simp;omega) _).drew⟩
    have e:=wrow_set (wds T k) (word T k) (by rw [wds_length];omega)
    rw [wds_length] at e
    have hv:=hI.v.set k (.int .u32 (V (word T k)))
    rw [e] at hv
    obtain ⟨e0,e1,e2,e3⟩:=E.out
    rw [e0,e1,e2,e3]
    exact hv.drew
   case measure=>simp [intOf];omega
  ·have hk16:k=16:=by omega
   rw [hk16] at hI
   have hge:¬ (k:Int) < 16:=by omega
   clear hk16 hk hlt
   go_wp2_with fail
   obtain ⟨wo,rfl⟩:∃ wo:World,wo=wr:=⟨_,rfl⟩
   go_loopw [5] (fun v5 wq=>∃ j:Nat,j≤48∧v5=.int .i64 ((j:Int)+16)∧SInv w.heap.size A (ext (wds T 16) j) w wq) (fun v5 _=>64 - (intOf v5).toNat)
   case atStart=>exact ⟨0,by omega,rfl,hI⟩
   case round=>
    clear hI
    obtain ⟨j,hj,rfl,hI⟩:=hrel
    by_cases hlt:j < 48
    ·have hlen:(ext (wds T 16) j).length=j+16:=by rw [ext_length,wds_length];omega
     have key:∀ i,i < 64→wr.cell? ⟨w.heap.size+1+1,i,none⟩=some (.int .u32 (V ((ext (wds T 16) j).getD i 0))):=fun i hi=>by
      rw [show w.heap.size+1+1=w.heap.size+2 from rfl,hI.v.cell,wrow_get _ i hi (by omega)]
     obtain ⟨x,hx⟩:∃ x,x=(ext (wds T 16) j).getD (j+14) 0:=⟨_,rfl⟩
     obtain ⟨y,hy⟩:∃ y,y=(ext (wds T 16) j).getD (j+1) 0:=⟨_,rfl⟩
     obtain ⟨z,hz'⟩:∃ z,z=(ext (wds T 16) j).getD (j+9) 0:=⟨_,rfl⟩
     obtain ⟨v,hv⟩:∃ v,v=(ext (wds T 16) j).getD j 0:=⟨_,rfl⟩
     have c2:=key (j+14) (by omega)
     have c15:=key (j+1) (by omega)
     have c7:=key (j+9) (by omega)
     have c16:=key j (by omega)
     have hc:=key (j+16) (by omega)
     rw [←hx] at c2
     rw [←hy] at c15
     rw [←hz'] at c7
     rw [←hv] at c16
     obtain ⟨o,ho⟩:∃ o:Int,o=V ((ext (wds T 16) j).getD (j+16) 0):=⟨_,rfl⟩
     rw [←ho] at hc
     have hf:wr.frozen? ⟨w.heap.size+1+1,j+16,none⟩=false:=hI.v.free _
     have E:=zh (And.intro hx (And.intro hy (And.intro hz' hv)))
     have HL:=zh hlen
     clear hx hy hz' hv key ho hlen
     have s2:IntKind.i64.wrap ((j:Int)+16 - 2)=(j:Int)+14:=by rw [IntWalk.i64_in _ (by omega)];omega
     have s15:IntKind.i64.wrap ((j:Int)+16 - 15)=(j:Int)+1:=by rw [IntWalk.i64_in _ (by omega)];omega
     have s7:IntKind.i64.wrap ((j:Int)+16 - 7)=(j:Int)+9:=by rw [IntWalk.i64_in _ (by omega)];omega
     have s16:IntKind.i64.wrap ((j:Int)+16 - 16)=(j:Int):=by rw [IntWalk.i64_in _ (by omega)];omega
     have q0:0≤(j:Int):=by omega
     have q1:0≤(j:Int)+1:=by omega
     have q9:0≤(j:Int)+9:=by omega
     have q14:0≤(j:Int)+14:=by omega
     have i14:(j:Int)+14 < 64:=by omega
     have i9:(j:Int)+9 < 64:=by omega
     have i1:(j:Int)+1 < 64:=by omega
     have i0:(j:Int) < 64:=by omega
     have n14:((j:Int)+14).toNat=j+14:=by omega
     have n9:((j:Int)+9).toNat=j+9:=by omega
     have n1:((j:Int)+1).toNat=j+1:=by omega
     go_wp2_with fail
     go_quiet (fail)
     go_wp2_with (go_at_call 204;first | ((with_reducible refine (turn_any _ 17 17 _ rfl (by decide) (by decide)).mono ?_);rintro e w' ⟨rfl,rfl⟩) | ((with_reducible refine (turn_any _ 19 19 _ rfl (by decide) (by decide)).mono ?_);rintro e w' ⟨rfl,rfl⟩) | ((with_reducible refine (turn_any _ 7 7 _ rfl (by decide) (by decide)).mono ?_);rintro e w' ⟨rfl,rfl⟩) | ((with_reducible refine (turn_any _ 18 18 _ rfl (by decide) (by decide)).mono ?_);rintro e w' ⟨rfl,rfl⟩))
     refine wp_region_quiet_tail 15 (by kernel_rfl) (by kernel_rfl) ?_
     simp only [List.take_succ_cons,List.take_zero,List.drop_succ_cons,List.drop_zero]
     repeat (go_big_quiet_step (fail))
     refine wpQuiet_nil ?_
     go_wp2_with fail
     go_roundw
     case rel=>
      refine ⟨j+1,by omega,by go_num,?_⟩
      rw [r_xor,r_xor,shr10,shr3,r_xor,r_xor,r_add4]
      have hlen:=HL.out
      have e:=wrow_set (ext (wds T 16) j) (nextW (ext (wds T 16) j)) (by omega)
      rw [hlen] at e
      have hv:=At.set (w:=wr.drewN (nq+1)) hI.v (j+16) (.int .u32 (V (nextW (ext (wds T 16) j))))
      rw [e] at hv
      refine ⟨At.set_other (w:=wr.drewN (nq+1)) hI.a _ _ (by simp;omega),At.set_other (w:=wr.drewN (nq+1)) hI.r _ _ (by simp),?_,(Below.drewN' hI.b).setCell (by simp;omega) _⟩
      obtain ⟨ex,ey,ez,ev⟩:=E.out
      have en:nextW (ext (wds T 16) j)=(x.rotateRight 17 ^^^ x.rotateRight 19 ^^^ (x >>> 10))+z+(y.rotateRight 7 ^^^ y.rotateRight 18 ^^^ (y >>> 3))+v:=by
       unfold nextW s0 s1
       rw [hlen,show j+16 - 2=j+14 from rfl,show j+16 - 15=j+1 from rfl,show j+16 - 7=j+9 from rfl,show j+16 - 16=j from rfl,←ex,←ey,←ez,←ev]
      rw [←en]
      exact hv
     case measure=>simp [intOf];omega
    ·have hj48:j=48:=by omega
     rw [hj48] at hI
     have hge':¬ (j:Int)+16 < 64:=by omega
     clear hj48 hj hlt
     have hv:At wr (w.heap.size+1+1) (wrow (ext (wds T 16) 48)) 295:=hI.v
     have hr:At wr (w.heap.size+1) Z64 295:=hI.r
     have hb:=hI.b
     have hsz:(wrow (ext (wds T 16) 48)).size=64:=wrow_size _ (by rw [ext_length,wds_length];omega)
     have hfin:wrow (ext (wds T 16) 48)=(u32s (sched T)).toArray:=by
      have:(ext (wds T 16) 48).length=64:=by rw [ext_length,wds_length]
      unfold wrow sched;rw [this];simp
     have HF:=zh hfin;clear hfin
     generalize wrow (ext (wds T 16) 48)=D at *
     have HV:=zh hv;have HR:=zh hr;have HB:=zh hb;have HS:=zh hsz
     have h1:D.all (·.oneCell')=true:=by rw [HF.out];exact u32s_one _
     have H1:=zh h1
     clear hv hr hb hsz hI h1
     go_wp2_with (first | (refine wpList_load_all zr 295 _ zr _ zr _ Tryz.underlying295 zr _ _ HV.out (by rw [HS.out];exact info64) ?_) | (refine wpList_store_all zr 295 _ _ zr zr _ _ zr zr (by rw [HS.out];exact info64) _ _ HR.out (by rw [HS.out];rfl) H1.out ?_))
     try simp only [Exit.inBlock,Exit.then]
     refine ret_row zr (w.heap.size+1) 295 D _ zr (HR.out.row D) Tryz.underlying295 zr (by rw [HS.out];exact info64) ?_
     exact ⟨by rw [HF.out],below_row HB.out (by omega) D⟩
def addB (H:List (BitVec 32)) (T:Lb8):List (BitVec 32):=adds H (rnds (sched T) (regOf (adds IVl H)) 64).list
def zs64:Lb8:=List.replicate 64 0
structure Fed where
 H:List (BitVec 32)
 T:Lb8
 at':Nat
def feed (s:Fed) (b:BitVec 8):Fed:=
 if s.at'+1=64 then ⟨addB s.H (s.T.set s.at' b),zs64,0⟩ else ⟨s.H,s.T.set s.at' b,s.at'+1⟩
def feeds (s:Fed) (l:Lb8):Fed:=l.foldl feed s
structure Ok (s:Fed):Prop where
 h:s.H.length=8
 t:s.T.length=64
 a:s.at' < 64
theorem addB_length (H:List (BitVec 32)) (T:Lb8) (h:H.length=8):(addB H T).length=8:=by
 simp [addB,adds,h,Reg.list]
theorem feed_ok {s:Fed} (h:Ok s) (b:BitVec 8):Ok (feed s b):=by
 unfold feed
 split
 ·exact ⟨addB_length _ _ h.h,by simp [zs64],by simp⟩
 ·exact ⟨h.h,by simp [h.t],by have:=h.a;simp;omega⟩
theorem feeds_ok:∀ (l:Lb8) {s:Fed},Ok s→Ok (feeds s l)
 | [],_,h=>h
 | b::l,_,h=>feeds_ok l (feed_ok h b)
theorem feeds_append (s:Fed) (l m:Lb8):feeds s (l++m)=feeds (feeds s l) m:=by simp [feeds]
def lay (T:Lb8) (a:Nat) (c:Lb8):Lb8:=T.take a++c++T.drop (a+c.length)
theorem lay_nil (T:Lb8) (a:Nat):lay T a []=T:=by simp [lay]
theorem lay_length (T:Lb8) (a:Nat) (c:Lb8) (h:a+c.length≤T.length):(lay T a c).length=T.length:=by
 simp [lay];omega
theorem lay_cons (T:Lb8) (a:Nat) (b:BitVec 8) (c:Lb8) (h:a < T.length):lay (T.set a b) (a+1) c=lay T a (b::c):=by
 unfold lay
 have e1:(T.set a b).take (a+1)=T.take a++[b]:=by
  rw [List.take_succ_eq_append_getElem (by simpa using h),List.take_set_of_le (Nat.le_refl a)]
  simp
 rw [e1,List.drop_set_of_lt (by omega)]
 simp
 omega
theorem feeds_part:∀ (c:Lb8) (s:Fed),s.T.length=64→s.at'+c.length < 64→feeds s c=⟨s.H,lay s.T s.at' c,s.at'+c.length⟩
 | [],s,_,_=>by simp [feeds,lay_nil]
 | b::c,s,hT,h=>by
  simp only [List.length_cons] at h
  have e:feed s b=⟨s.H,s.T.set s.at' b,s.at'+1⟩:=by unfold feed;rw [if_neg (by omega)]
  have ih:=feeds_part c ⟨s.H,s.T.set s.at' b,s.at'+1⟩ (by simpa using hT) (by simp;omega)
  rw [feeds,List.foldl_cons,e]
  rw [feeds] at ih
  rw [ih,lay_cons _ _ _ _ (by omega)]
  simp;omega
theorem feeds_full:∀ (c:Lb8) (s:Fed),s.T.length=64→s.at' < 64→s.at'+c.length=64→feeds s c=⟨addB s.H (lay s.T s.at' c),zs64,0⟩
 | [],s,_,h0,h=>by simp at h;omega
 | [b],s,hT,h0,h=>by
  simp at h
  have e:feed s b=⟨addB s.H (s.T.set s.at' b),zs64,0⟩:=by unfold feed;rw [if_pos (by omega)]
  rw [feeds,List.foldl_cons,e,List.foldl_nil,←lay_cons _ _ _ _ (by omega),lay_nil]
 | b::b'::c,s,hT,h0,h=>by
  simp only [List.length_cons] at h
  have e:feed s b=⟨s.H,s.T.set s.at' b,s.at'+1⟩:=by unfold feed;rw [if_neg (by omega)]
  have ih:=feeds_full (b'::c) ⟨s.H,s.T.set s.at' b,s.at'+1⟩ (by simpa using hT) (by simp;omega) (by simp;omega)
  rw [feeds,List.foldl_cons,e]
  rw [feeds] at ih
  rw [ih,lay_cons _ _ _ _ (by omega)]
/-! ### the row of a state -/
def stL (H:List (BitVec 32)) (T:Lb8) (n:Nat):List Value:=u32s H++u8s T++[.int .u64 (n:Int)]
def stRow (H:List (BitVec 32)) (T:Lb8) (n:Nat):Array Value:=(stL H T n).toArray
theorem stRow_size {H:List (BitVec 32)} {T:Lb8} {n:Nat} (h:H.length=8) (t:T.length=64):(stRow H T n).size=73:=by
 simp [stRow,stL,u32s,u8s,h,t]
theorem stRow_n {H:List (BitVec 32)} {T:Lb8} {n:Nat} (h:H.length=8) (t:T.length=64):(stRow H T n)[72]?=some (.int .u64 (n:Int)):=by
 simp [stRow,stL,u32s,u8s,h,t]
theorem stRow_set {H:List (BitVec 32)} {T:Lb8} {n m:Nat} (h:H.length=8) (t:T.length=64):(stRow H T n).setIfInBounds 72 (.int .u64 (m:Int))=stRow H T m:=by
 simp [stRow,stL,u32s,u8s,h,t]
theorem stRow_H {H:List (BitVec 32)} {T:Lb8} {n:Nat} (h:H.length=8):(stRow H T n).extract 0 (0+8)=(u32s H).toArray:=by
 have e:(u32s H).length=8:=by rw [u32s_length,h]
 simp [stRow,stL,e]
theorem stRow_T {H:List (BitVec 32)} {T:Lb8} {n:Nat} (h:H.length=8) (t:T.length=64):(stRow H T n).extract 8 (8+64)=(u8s T).toArray:=by
 have e:(u32s H).length=8:=by rw [u32s_length,h]
 have e':(u8s T).length=64:=by rw [u8s_length,t]
 simp [stRow,stL,e,e']
theorem stRow_putH {H H':List (BitVec 32)} {T:Lb8} {n:Nat} (h:H.length=8) (h':H'.length=8):Mem.splice (stRow H T n) 0 (u32s H')=stRow H' T n:=by
 have e:(u32s H).length=8:=by rw [u32s_length,h]
 have e':(u32s H').length=8:=by rw [u32s_length,h']
 simp [Mem.splice,stRow,stL,e,e']
theorem stRow_putT {H:List (BitVec 32)} {T:Lb8} {n:Nat} (h:H.length=8) (t:T.length=64) (a:Nat) (c:Lb8) (hc:a+c.length≤64):Mem.splice (stRow H T n) (8+a) (u8s c)=stRow H (lay T a c) n:=by
 have e:(u32s H).length=8:=by rw [u32s_length,h]
 have e':(u8s c).length=c.length:=u8s_length c
 have e1:List.take (8+a) (stL H T n)=u32s H++u8s (T.take a):=by
  unfold stL
  rw [List.append_assoc,List.take_append,e,List.take_of_length_le (by omega),List.take_append,u8s_length,t]
  simp [u8s,List.map_take]
  omega
 have e2:List.drop (8+a+c.length) (stL H T n)=u8s (T.drop (a+c.length))++[.int .u64 (n:Int)]:=by
  unfold stL
  rw [List.append_assoc,List.drop_append,e,List.drop_of_length_le (by omega),List.drop_append,u8s_length,t]
  have z:8+a+c.length - 8 - 64=0:=by omega
  have z':8+a+c.length - 8=a+c.length:=by omega
  rw [z,z']
  simp [u8s,List.map_drop]
 unfold Mem.splice
 rw [e',show (stRow H T n).toList=stL H T n from rfl,e1,e2]
 simp [stRow,stL,lay,u8s,List.append_assoc]
/-! ### the padding -/
def padQ (t:Nat):Nat:=if t < 56 then 56 - t else 120 - t
def P0:Lb8:=128::List.replicate 71 0
def lenByte (m i:Nat):BitVec 8:=BitVec.ofNat 8 (m / 2 ^ (56 - 8*i))
def padRow (q m:Nat):Nat→Lb8
 | 0=>P0
 | i+1=>(padRow q m i).set (q+i) (lenByte m i)
def padBytes (n:Nat):Lb8:=(padRow (padQ (n % 64)) (n*8) 8).take (padQ (n % 64)+8)
theorem padRow_length (q m:Nat):∀ i,(padRow q m i).length=72
 | 0=>by simp [padRow,P0]
 | i+1=>by simp [padRow,padRow_length q m i]
theorem padQ_bd (t:Nat) (h:t < 64):1≤padQ t∧padQ t≤64:=by
 unfold padQ;split <;> omega
theorem padBytes_length (n:Nat):(padBytes n).length=padQ (n % 64)+8:=by
 have:=padQ_bd (n % 64) (Nat.mod_lt _ (by decide))
 simp [padBytes,padRow_length];omega
/-! ### the digest's bytes -/
def dRow (l:List (BitVec 32)):Nat→Lb8
 | 0=>List.replicate 32 0
 | i+1=>((((dRow l i).set (4*i) (wb (l.getD i 0) 24)).set (4*i+1) (wb (l.getD i 0) 16)).set (4*i+2) (wb (l.getD i 0) 8)).set (4*i+3) (wb (l.getD i 0) 0)
theorem dRow_length (l:List (BitVec 32)):∀ i,(dRow l i).length=32
 | 0=>by simp [dRow]
 | i+1=>by simp [dRow,dRow_length l i]
def digest (s:Fed) (n:Nat):Lb8:=dRow (adds (feeds s (padBytes n)).H IVl) 8
def Tab (w:World) (g:Nat) (l:List (BitVec 32)):Prop:=g < w.heap.size∧∀ i,i < l.length→w.cell? ⟨g,i,none⟩=some (.int .u32 (V (l.getD i 0)))
theorem Tab.below {w w':World} {B g:Nat} {l:List (BitVec 32)} (h:Tab w g l) (hb:Below B w w') (hlt:g < B):Tab w' g l:=
 ⟨Nat.lt_of_lt_of_le h.1 hb.size,fun i hi=>by rw [hb.cell (p:=⟨g,i,none⟩) hlt];exact h.2 i hi⟩
theorem Tab.keep {w w':World} {b g:Nat} {l:List (BitVec 32)} (h:Tab w g l) (o:∀ k,k≠b→w'.heap[k]?=w.heap[k]?) (hne:g≠b):Tab w' g l:=by
 have e:=o g hne
 refine ⟨?_,fun i hi=>by rw [World.cell?_of_block (w:=w) (w':=w') e];exact h.2 i hi⟩
 have h1:=h.1
 rcases Nat.lt_or_ge g w'.heap.size with h2 | h2
 ·exact h2
 ·rw [Array.getElem?_eq_none h2,Array.getElem?_eq_getElem h1] at e
  cases e
theorem Tab.set_other {w:World} {g:Nat} {l:List (BitVec 32)} (h:Tab w g l) (a:Addr) (v:Value) (hne:g≠a.block):Tab (w.setCell a v) g l:=
 h.keep (b:=a.block) (fun k hk=>heap_setCell_other w a k v hk) hne
structure Tabs (w:World):Prop where
 k:Tab w 1 Kl
 f:Tab w 0 IVl
theorem Tabs.below {w w':World} {B:Nat} (h:Tabs w) (hb:Below B w w') (hB:w.heap.size≤B):Tabs w':=
 ⟨h.k.below hb (Nat.lt_of_lt_of_le h.k.1 hB),h.f.below hb (Nat.lt_of_lt_of_le h.f.1 hB)⟩
theorem turn_q (x:BitVec 32) (n:Int) (r:Nat) (w:World) (hr:(n % 32).toNat=r) (h0:-9223372036854775808≤n) (h1:n≤9223372036854775807) :
 Calls Tryz.prog 204 #[.int .u32 (V x),.int .i64 n] w fun e w'=>e=.returned (.int .u32 (V (x.rotateRight r)))∧w'=w:=
 (turn_any x n r w hr h0 h1).mono fun _ _ ⟨a,b⟩=>⟨a,b.symm⟩
def Z8:Array Value:=(u32s (List.replicate 8 0)).toArray
theorem zero8 (w:World):(zeroValue 242).run Tryz.prog w=.ok (.agg Z8) w:=by kernel_rfl
theorem info8:(Tryz.prog.info? 242).map (·.size)=some 8:=by kernel_rfl
theorem infoW:(Tryz.prog.info? 36).map (·.size)=some 1:=by kernel_rfl
theorem info64b:(Tryz.prog.info? 243).map (·.size)=some 64:=by kernel_rfl
structure AInv (B Bw:Nat) (w:World) (Hr D:Array Value) (wr:World):Prop where
 h:At wr B Hr 242
 r:At wr (B+2) Z8 242
 d:At wr Bw D 295
 tabs:Tabs wr
 b:Below B w wr
theorem AInv.drewN {B Bw n:Nat} {w wr:World} {Hr D:Array Value} (h:AInv B Bw w Hr D wr):AInv B Bw w Hr D (wr.drewN n):=
 ⟨h.h,h.r,h.d,⟨h.tabs.k,h.tabs.f⟩,Below.drewN' h.b⟩
def Slots (r:Reg) (a b c d e f g h:Value):Prop:=
 a=.int .u32 (V r.a)∧b=.int .u32 (V r.b)∧c=.int .u32 (V r.c)∧d=.int .u32 (V r.d)∧e=.int .u32 (V r.e)∧f=.int .u32 (V r.f)∧g=.int .u32 (V r.g)∧h=.int .u32 (V r.h)
theorem addBlock_any (H:List (BitVec 32)) (T:Lb8) (hH:H.length=8) (hT:T.length=64) (w:World) (hL:Tabs w) :
 Calls Tryz.prog 196 #[.agg (u32s H).toArray,.agg (u8s T).toArray] w fun e w'=>e=.returned (.agg (u32s (addB H T)).toArray)∧Below w.heap.size w w':=by
 obtain ⟨Hr,hHr⟩:∃ A,A=(u32s H).toArray:=⟨_,rfl⟩
 obtain ⟨Tr,hTr⟩:∃ A,A=(u8s T).toArray:=⟨_,rfl⟩
 obtain ⟨Z,hZ⟩:∃ A,A=Z64:=⟨_,rfl⟩
 obtain ⟨Y,hY⟩:∃ A,A=Z8:=⟨_,rfl⟩
 obtain ⟨D,hD⟩:∃ A,A=(u32s (sched T)).toArray:=⟨_,rfl⟩
 have hsc:∀ w,Calls Tryz.prog 203 #[.agg Tr] w fun e w'=>e=.returned (.agg D)∧Below w.heap.size w w':=by
  rw [hTr,hD];exact sched_any T hT
 have hz:=zero64
 have hy:=zero8
 have sT:Tr.size=64:=by rw [hTr];simp [u8s,hT]
 have sD:D.size=64:=by rw [hD];simp [u32s,sched,ext_length,wds_length]
 have sZ:Z.size=64:=by rw [hZ];exact wrow_size [] (by simp)
 have oD:D.all (·.oneCell')=true:=by rw [hD];exact u32s_one _
 rw [←hHr,←hTr]
 rw [←hZ] at hz
 rw [←hY] at hy
 have HHr:=zh hHr;have HTr:=zh hTr;have HZ:=zh hZ;have HY:=zh hY;have HD:=zh hD;have HSC:=zh hsc
 have HT:=zh hT;have HH:=zh hH;have ST:=zh sT;have SD:=zh sD;have SZ:=zh sZ;have OD:=zh oD;have HL:=zh hL
 clear hHr hTr hZ hY hD hsc hT hH sT sD sZ oD hL
 have aT:At (((w.alloc (.cells Hr 242)).alloc (.cells Tr 243)).alloc (.cells Y 242)) (w.heap.size+1) Tr 243:=by
  have:=(at_new (w.alloc (.cells Hr 242)) Tr 243).alloc (.cells Y 242)
  simpa using this
 have AT:=zh aT;clear aT
 go_enter Tryz.func196,Tryz.ntmps196
 go_wp2_with (first | (refine wpList_load_all zr 243 _ zr _ zr _ Tryz.underlying243 zr _ _ AT.out (by rw [ST.out];exact info64b) ?_) | (go_at_call 203;refine (HSC.out _).mono ?_;rintro e w2 ⟨rfl,hb2⟩) | (refine wpList_store_new zr 295 _ _ zr zr D _ _ zr zr (by rw [SD.out];exact info64) (by rw [SD.out,SZ.out]) OD.out ?_))
 clear hz hy
 have hI:AInv w.heap.size w2.heap.size w Hr D (w2.alloc (.cells D 295)):=by
  have hb1:Below w.heap.size w (((w.alloc (.cells Hr 242)).alloc (.cells Tr 243)).alloc (.cells Y 242)):=(((Below.refl _ _).alloc (Nat.le_refl _) _).alloc (by simp) _).alloc (by simp;omega) _
  have aH:At (((w.alloc (.cells Hr 242)).alloc (.cells Tr 243)).alloc (.cells Y 242)) w.heap.size Hr 242:=((at_new w Hr 242).alloc _).alloc _
  have aY:At (((w.alloc (.cells Hr 242)).alloc (.cells Tr 243)).alloc (.cells Y 242)) (w.heap.size+2) Y 242:=by
   have:=at_new ((w.alloc (.cells Hr 242)).alloc (.cells Tr 243)) Y 242
   simpa using this
  have hsz2:=hb2.size
  have hs1:(((w.alloc (.cells Hr 242)).alloc (.cells Tr 243)).alloc (.cells Y 242)).heap.size=w.heap.size+3:=by simp
  rw [hs1] at hb2 hsz2
  refine ⟨(aH.below hb2 (by omega)).alloc _,?_,at_new w2 D _,?_,?_⟩
  ·rw [←HY.out];exact (aY.below hb2 (by omega)).alloc _
  ·have t1:=HL.out.below hb1 (Nat.le_refl _)
   have t2:=t1.below hb2 (by rw [hs1];exact Nat.le_refl _)
   exact t2.below ((Below.refl w2.heap.size w2).alloc (Nat.le_refl _) _) (Nat.le_refl _)
  ·exact (hb1.trans (hb2.mono (by omega))).alloc (by omega) _
 have hBw:w.heap.size+3≤w2.heap.size:=by have:=hb2.size;simpa using this
 clear hb2
 generalize hB2:w2.alloc (.cells D 295)=w3 at *
 generalize w2.heap.size=Bw at *
 clear hB2 w2
 have f0:w3.cell? ⟨0,0,none⟩=some (.int .u32 (V (IVl.getD 0 0))):=hI.tabs.f.2 0 (by decide)
 have h0:w3.cell? ⟨w.heap.size,0,none⟩=some (.int .u32 (V (H.getD 0 0))):=by rw [hI.h.cell,HHr.out,List.getElem?_toArray];exact u32s_get H 0 (by rw [HH.out];decide)
 have f1:w3.cell? ⟨0,1,none⟩=some (.int .u32 (V (IVl.getD 1 0))):=hI.tabs.f.2 1 (by decide)
 have h1:w3.cell? ⟨w.heap.size,1,none⟩=some (.int .u32 (V (H.getD 1 0))):=by rw [hI.h.cell,HHr.out,List.getElem?_toArray];exact u32s_get H 1 (by rw [HH.out];decide)
 have f2:w3.cell? ⟨0,2,none⟩=some (.int .u32 (V (IVl.getD 2 0))):=hI.tabs.f.2 2 (by decide)
 have h2:w3.cell? ⟨w.heap.size,2,none⟩=some (.int .u32 (V (H.getD 2 0))):=by rw [hI.h.cell,HHr.out,List.getElem?_toArray];exact u32s_get H 2 (by rw [HH.out];decide)
 have f3:w3.cell? ⟨0,3,none⟩=some (.int .u32 (V (IVl.getD 3 0))):=hI.tabs.f.2 3 (by decide)
 have h3:w3.cell? ⟨w.heap.size,3,none⟩=some (.int .u32 (V (H.getD 3 0))):=by rw [hI.h.cell,HHr.out,List.getElem?_toArray];exact u32s_get H 3 (by rw [HH.out];decide)
 have f4:w3.cell? ⟨0,4,none⟩=some (.int .u32 (V (IVl.getD 4 0))):=hI.tabs.f.2 4 (by decide)
 have h4:w3.cell? ⟨w.heap.size,4,none⟩=some (.int .u32 (V (H.getD 4 0))):=by rw [hI.h.cell,HHr.out,List.getElem?_toArray];exact u32s_get H 4 (by rw [HH.out];decide)
 have f5:w3.cell? ⟨0,5,none⟩=some (.int .u32 (V (IVl.getD 5 0))):=hI.tabs.f.2 5 (by decide)
 have h5:w3.cell? ⟨w.heap.size,5,none⟩=some (.int .u32 (V (H.getD 5 0))):=by rw [hI.h.cell,HHr.out,List.getElem?_toArray];exact u32s_get H 5 (by rw [HH.out];decide)
 have f6:w3.cell? ⟨0,6,none⟩=some (.int .u32 (V (IVl.getD 6 0))):=hI.tabs.f.2 6 (by decide)
 have h6:w3.cell? ⟨w.heap.size,6,none⟩=some (.int .u32 (V (H.getD 6 0))):=by rw [hI.h.cell,HHr.out,List.getElem?_toArray];exact u32s_get H 6 (by rw [HH.out];decide)
 have f7:w3.cell? ⟨0,7,none⟩=some (.int .u32 (V (IVl.getD 7 0))):=hI.tabs.f.2 7 (by decide)
 have h7:w3.cell? ⟨w.heap.size,7,none⟩=some (.int .u32 (V (H.getD 7 0))):=by rw [hI.h.cell,HHr.out,List.getElem?_toArray];exact u32s_get H 7 (by rw [HH.out];decide)
 obtain ⟨p0,hp0⟩:∃ p,p=IVl.getD 0 0:=⟨_,rfl⟩
 obtain ⟨q0,hq0⟩:∃ q,q=H.getD 0 0:=⟨_,rfl⟩
 rw [←hp0] at f0
 rw [←hq0] at h0
 have P0:=zh hp0;have Q0:=zh hq0;clear hp0 hq0
 obtain ⟨p1,hp1⟩:∃ p,p=IVl.getD 1 0:=⟨_,rfl⟩
 obtain ⟨q1,hq1⟩:∃ q,q=H.getD 1 0:=⟨_,rfl⟩
 rw [←hp1] at f1
 rw [←hq1] at h1
 have P1:=zh hp1;have Q1:=zh hq1;clear hp1 hq1
 obtain ⟨p2,hp2⟩:∃ p,p=IVl.getD 2 0:=⟨_,rfl⟩
 obtain ⟨q2,hq2⟩:∃ q,q=H.getD 2 0:=⟨_,rfl⟩
 rw [←hp2] at f2
 rw [←hq2] at h2
 have P2:=zh hp2;have Q2:=zh hq2;clear hp2 hq2
 obtain ⟨p3,hp3⟩:∃ p,p=IVl.getD 3 0:=⟨_,rfl⟩
 obtain ⟨q3,hq3⟩:∃ q,q=H.getD 3 0:=⟨_,rfl⟩
 rw [←hp3] at f3
 rw [←hq3] at h3
 have P3:=zh hp3;have Q3:=zh hq3;clear hp3 hq3
 obtain ⟨p4,hp4⟩:∃ p,p=IVl.getD 4 0:=⟨_,rfl⟩
 obtain ⟨q4,hq4⟩:∃ q,q=H.getD 4 0:=⟨_,rfl⟩
 rw [←hp4] at f4
 rw [←hq4] at h4
 have P4:=zh hp4;have Q4:=zh hq4;clear hp4 hq4
 obtain ⟨p5,hp5⟩:∃ p,p=IVl.getD 5 0:=⟨_,rfl⟩
 obtain ⟨q5,hq5⟩:∃ q,q=H.getD 5 0:=⟨_,rfl⟩
 rw [←hp5] at f5
 rw [←hq5] at h5
 have P5:=zh hp5;have Q5:=zh hq5;clear hp5 hq5
 obtain ⟨p6,hp6⟩:∃ p,p=IVl.getD 6 0:=⟨_,rfl⟩
 obtain ⟨q6,hq6⟩:∃ q,q=H.getD 6 0:=⟨_,rfl⟩
 rw [←hp6] at f6
 rw [←hq6] at h6
 have P6:=zh hp6;have Q6:=zh hq6;clear hp6 hq6
 obtain ⟨p7,hp7⟩:∃ p,p=IVl.getD 7 0:=⟨_,rfl⟩
 obtain ⟨q7,hq7⟩:∃ q,q=H.getD 7 0:=⟨_,rfl⟩
 rw [←hp7] at f7
 rw [←hq7] at h7
 have P7:=zh hp7;have Q7:=zh hq7;clear hp7 hq7
 have HI:=zh hI;clear hI
 go_quiet (fail)
 go_wp2_with fail
 go_quiet (fail)
 go_wp2_with fail
 obtain ⟨R,hR⟩:∃ R,R=regOf (adds IVl H):=⟨_,rfl⟩
 have HR:=zh hR;clear hR
 go_loopw [6,7,8,9,10,11,12,13,61] (fun a b c d e f g h i wr=>∃ t:Nat,t≤64∧i=.int .i64 t∧Slots (rnds (sched T) R t) a b c d e f g h∧AInv w.heap.size Bw w Hr D wr) (fun _ _ _ _ _ _ _ _ i _=>64 - (intOf i).toNat)
 case atStart=>
  refine ⟨0,by omega,rfl,?_,HI.out.drewN.drewN⟩
  have e:R=⟨p0+q0,p1+q1,p2+q2,p3+q3,p4+q4,p5+q5,p6+q6,p7+q7⟩:=by
   have hl:=HH.out
   rw [HR.out,P0.out,P1.out,P2.out,P3.out,P4.out,P5.out,P6.out,P7.out,Q0.out,Q1.out,Q2.out,Q3.out,Q4.out,Q5.out,Q6.out,Q7.out]
   match H,hl with
   | [a,b,c,d,e,f,g,h],_=>rfl
  rw [r_add,r_add,r_add,r_add,r_add,r_add,r_add,r_add,e]
  exact ⟨rfl,rfl,rfl,rfl,rfl,rfl,rfl,rfl⟩
 case round=>
  obtain ⟨t,ht,rfl,⟨rfl,rfl,rfl,rfl,rfl,rfl,rfl,rfl⟩,hI⟩:=hrel
  by_cases hlt:t < 64
  ·obtain ⟨r,hr⟩:∃ r,r=rnds (sched T) R t:=⟨_,rfl⟩
   rw [←hr]
   have HRR:=zh hr;clear hr
   obtain ⟨ra,rb,rc,rd,re,rf,rg,rh⟩:=r
   have ck:wr.cell? ⟨1,t,none⟩=some (.int .u32 (V (Kl.getD t 0))):=hI.tabs.k.2 t hlt
   have cm:wr.cell? ⟨Bw,t,none⟩=some (.int .u32 (V ((sched T).getD t 0))):=by
    rw [hI.d.cell,HD.out,List.getElem?_toArray];exact u32s_get _ t (by rw [sched,ext_length,wds_length];exact hlt)
   obtain ⟨k,hk⟩:∃ k,k=Kl.getD t 0:=⟨_,rfl⟩
   obtain ⟨m,hm⟩:∃ m,m=(sched T).getD t 0:=⟨_,rfl⟩
   rw [←hk] at ck
   rw [←hm] at cm
   have HK:=zh hk;have HM:=zh hm;have HI':=zh hI
   clear hk hm hI
   have T6:=zh (fun w=>turn_q re 6 6 w rfl (by decide) (by decide))
   have T11:=zh (fun w=>turn_q re 11 11 w rfl (by decide) (by decide))
   have T25:=zh (fun w=>turn_q re 25 25 w rfl (by decide) (by decide))
   have T2:=zh (fun w=>turn_any ra 2 2 w rfl (by decide) (by decide))
   have T13:=zh (fun w=>turn_any ra 13 13 w rfl (by decide) (by decide))
   have T22:=zh (fun w=>turn_any ra 22 22 w rfl (by decide) (by decide))
   go_wp2_with fail
   go_quiet ((go_at_call 204;first | (with_reducible exact Calls.quiet_of_same (T6.out _)) | (with_reducible exact Calls.quiet_of_same (T11.out _)) | (with_reducible exact Calls.quiet_of_same (T25.out _))))
   have HI2:=zh (HI'.out.drewN (n:=nq))
   generalize wr.drewN nq=wq at *
   go_wp2_with (go_at_call 204;first | ((with_reducible refine (T2.out _).mono ?_);rintro e w' ⟨rfl,rfl⟩) | ((with_reducible refine (T13.out _).mono ?_);rintro e w' ⟨rfl,rfl⟩) | ((with_reducible refine (T22.out _).mono ?_);rintro e w' ⟨rfl,rfl⟩))
   go_roundw
   case rel=>
    refine ⟨t+1,by omega,by go_num,?_,HI2.out⟩
    have e:rnds (sched T) R (t+1)=rnd k m ⟨ra,rb,rc,rd,re,rf,rg,rh⟩:=by rw [HK.out,HM.out,HRR.out];rfl
    rw [e]
    have et:=tee_val k m ⟨ra,rb,rc,rd,re,rf,rg,rh⟩
    have ey:=you_val ⟨ra,rb,rc,rd,re,rf,rg,rh⟩
    rw [et,ey,r_add,r_add]
    exact ⟨rfl,rfl,rfl,rfl,rfl,rfl,rfl,rfl⟩
   case measure=>simp [intOf];omega
  ·have ht64:t=64:=by omega
   obtain ⟨r,hr⟩:∃ r,r=rnds (sched T) R t:=⟨_,rfl⟩
   rw [←hr]
   rw [ht64] at hr
   have hge:¬ (t:Int) < 64:=by omega
   have HRR:=zh hr;clear hr ht64 ht hlt
   obtain ⟨ra,rb,rc,rd,re,rf,rg,rh⟩:=r
   obtain ⟨M,hM⟩:∃ M,M=Reg.list ⟨ra,rb,rc,rd,re,rf,rg,rh⟩:=⟨_,rfl⟩
   have hlen:H.length=M.length:=by rw [HH.out,hM];rfl
   have hMl:M.length=8:=by rw [hM];rfl
   have HM:=zh hM;have HLEN:=zh hlen;have HML:=zh hMl;have HI':=zh hI
   clear hM hlen hMl hI
   go_wp2_with fail
   obtain ⟨wo,rfl⟩:∃ wo:World,wo=wr:=⟨_,rfl⟩
   go_loopw [133] (fun i wr=>∃ j:Nat,j≤8∧i=.int .i64 j∧AInv w.heap.size Bw w (u32s (addTo H M j)).toArray D wr) (fun i _=>8 - (intOf i).toNat)
   case atStart=>
    refine ⟨0,by omega,rfl,?_⟩
    have:=HI'.out
    rw [HHr.out] at this
    simpa [addTo] using this
   case round=>
    obtain ⟨j,hj,rfl,hI⟩:=hrel
    by_cases hlt:j < 8
    ·have hl1:(addTo H M j).length=8:=by rw [addTo_length H M HLEN.out,HH.out]
     have ca:wr.cell? ⟨w.heap.size,j,none⟩=some (.int .u32 (V (H.getD j 0))):=by
      rw [hI.h.cell,List.getElem?_toArray,u32s_get _ j (by omega),addTo_get H M HLEN.out j (by rw [HH.out];exact hlt)]
     have fa:wr.frozen? ⟨w.heap.size,j,none⟩=false:=hI.h.free j
     obtain ⟨x,hx⟩:∃ x,x=H.getD j 0:=⟨_,rfl⟩
     rw [←hx] at ca
     have HX:=zh hx;have HI2:=zh hI;have HL1:=zh hl1
     clear hx hI hl1
     have hjv:(u32s M).toArray[j]?=some (.int .u32 (V (M.getD j 0))):=by rw [List.getElem?_toArray];exact u32s_get M j (by rw [HML.out];exact hlt)
     obtain ⟨y,hy'⟩:∃ y,y=M.getD j 0:=⟨_,rfl⟩
     rw [←hy'] at hjv
     have HYV:=zh hy';have HJV:=zh hjv
     clear hy' hjv
     go_wp2_with (refine wpList_index_row zr 242 _ _ zr 8 36 Tryz.underlying242 _ Tryz.underlying36 zr infoW (u32s M).toArray j (by rw [HM.out];rfl) zr hlt _ HJV.out ?_)
     go_roundw
     case rel=>
      refine ⟨j+1,by omega,by go_num,?_⟩
      rw [r_add]
      have hI:=HI2.out
      have e:(u32s (addTo H M j)).toArray.setIfInBounds j (.int .u32 (V (x+y)))=(u32s (addTo H M (j+1))).toArray:=by
       rw [u32s_set,HX.out,HYV.out,addTo_set H M HLEN.out j (by rw [HH.out];exact hlt)]
      have hh:=hI.h.set j (.int .u32 (V (x+y)))
      rw [e] at hh
      have hb2':w.heap.size+3≤Bw:=hBw
      exact ⟨hh,hI.r.set_other _ _ (by simp),hI.d.set_other _ _ (by simp;omega),⟨hI.tabs.k.set_other _ _ (by simp;have:=HL.out.k.1;omega),hI.tabs.f.set_other _ _ (by simp;have:=HL.out.f.1;omega)⟩,hI.b.setCell (by simp) _⟩
     case measure=>simp [intOf];omega
    ·have hj8:j=8:=by omega
     rw [hj8] at hI
     have hge':¬ (j:Int) < 8:=by omega
     have hfin:addTo H M 8=addB H T:=by
      have e:=addTo_all H M HLEN.out
      rw [HH.out] at e
      rw [e,addB,←HR.out,←HRR.out,HM.out]
     rw [hfin] at hI
     have hs8:(u32s (addB H T)).toArray.size=8:=by
      rw [←hfin];simp [u32s,addTo_length H M HLEN.out,HH.out]
     have h8:=hI.h;have hr8:=hI.r;have hb8:=hI.b
     have ho8:=u32s_one (addB H T)
     obtain ⟨E,hE⟩:∃ E,E=(u32s (addB H T)).toArray:=⟨_,rfl⟩
     rw [←hE] at h8 hs8 ho8
     have HE:=zh hE;have H8:=zh h8;have HR8:=zh hr8;have HB8:=zh hb8;have HS8:=zh hs8;have HO8:=zh ho8
     clear hj8 hj hlt hfin hE h8 hr8 hb8 hs8 ho8 hI
     go_wp2_with (first | (refine wpList_load_all zr 242 _ zr _ zr _ Tryz.underlying242 zr _ _ H8.out (by rw [HS8.out];exact info8) ?_) | (refine wpList_store_all zr 242 _ _ zr zr _ _ zr zr (by rw [HS8.out];exact info8) _ _ HR8.out (by rw [HS8.out];rfl) HO8.out ?_))
     try simp only [Exit.inBlock,Exit.then]
     refine ret_row zr (w.heap.size+2) 242 E _ zr (HR8.out.row E) Tryz.underlying242 zr (by rw [HS8.out];exact info8) ?_
     exact ⟨by rw [HE.out],below_row HB8.out (by omega) E⟩
end Sha
end Go.Proofs.YtlhnegbjoncieaaGreatDoor
