/- My own texts, merged. -/
import Derived.Test.YtlhnegbjoncieaaGreatDoorBL16
import Derived.Test.YtlhnegbjoncieaaGreatDoorBL04
import Derived.Test.YtlhnegbjoncieaaGreatDoorBL18
import Derived.Test.YtlhnegbjoncieaaGreatDoorBL14
import Derived.Test.YtlhnegbjoncieaaGreatDoorBL13
set_option maxRecDepth 100000
set_option maxHeartbeats 4000000
namespace Go.Proofs.YtlhnegbjoncieaaGreatDoor
namespace Sha
open Go.RowKit Mem
set_option maxRecDepth 100000
theorem allN_err (p:Lb8):(allN p).2=0∨((allN p).1=[]∧((allN p).2=1∨(allN p).2=9)):=by
 unfold allN
 split
 ·exact .inr ⟨rfl,.inl rfl⟩
 ·split
  ·exact .inl rfl
  ·exact .inr ⟨rfl,.inr rfl⟩
def r1:RefV:=⟨1,0,List.replicate 32 0⟩
end Sha
end Go.Proofs.YtlhnegbjoncieaaGreatDoor
namespace Go.Proofs.YtlhnegbjoncieaaGreatDoor
namespace Sha
open Go.RowKit Mem
def padR (x:Lb8):Lb8:=if x=[] then List.replicate 32 0 else x
theorem padR_len (x:Lb8) (h:x=[]∨x.length=32):(padR x).length=32:=by
 unfold padR
 split
 ·rfl
 ·rcases h with h | h
  ·rename_i h2;exact absurd h h2
  ·exact h
theorem pref_set0 (r:RefV) (z:Int):(refC r).setIfInBounds 0 (.int .i64 z)=refC { r with pl:=z }:=by simp [refC,refL]
theorem pref_set1 (r:RefV) (n:Nat) (hn:n≤4294967295):(refC r).setIfInBounds 1 (.int .u32 (n:Int))=refC { r with ep:=BitVec.ofNat 32 n }:=by
 have e:V (BitVec.ofNat 32 n)=(n:Int):=by
  show ((BitVec.ofNat 32 n).toNat:Int)=_
  rw [BitVec.toNat_ofNat];omega
 simp [refC,refL,e]
theorem pref_copy (r:RefV) (x:Lb8) (h:r.dg=List.replicate 32 0):(if x=[] then refC r else ((refC r).toList.take 2++u8s x++(refC r).toList.drop (2+32)).toArray)=refC { r with dg:=padR x }:=by
 unfold padR
 split
 ·rw [←h]
 ·have e:(u8s r.dg).length=32:=by rw [u8s_length,h];rfl
  unfold refC refL
  congr 1
  rw [take_mid _ _ 2 rfl,List.drop_eq_nil_of_le (by rw [List.length_append,e];exact Nat.le_refl _),List.append_nil]
theorem leN_lew (b:Lb8) (h:4≤b.length):leN (b.take 4)=(lew b 0).toNat:=by
 match b,h with
 | x0::x1::x2::x3::t,_=>
  have e:=nb4_le4 (lew (x0::x1::x2::x3::t) 0)
  rw [le4_lew] at e
  obtain ⟨n,hn⟩:∃ n,n=(lew (x0::x1::x2::x3::t) 0).toNat:=⟨_,rfl⟩
  have hlt:=(lew (x0::x1::x2::x3::t) 0).isLt
  rw [←hn] at e hlt ⊢
  show leN [x0,x1,x2,x3]=n
  rw [←e]
  simp only [nbytes,List.range_succ,List.range_zero,List.nil_append,List.map_cons,List.map_nil,List.cons_append,leN,nbyte,BitVec.toNat_ofNat]
  omega
theorem parse_spec (b:Lb8) (h:b.length=37) (n1 n2 e1 e2:Nat) (b1 b2:Lb8) (r3:Rd3) (h1:(n1,b1,e1)=rdNum b 0 1 1) (h2:(n2,b2,e2)=rdNum b1 e1 4 4294967295) (h3:r3=rdTake b2 e2 32) :
 (r3.e=0∧parseRf b=(⟨(n1:Int),BitVec.ofNat 32 n2,padR r3.x⟩,0))∨(r3.e=3∧parseRf b=(zref,1)):=by
 match b,h with
 | x0::t,h=>
  have ht:t.length=36:=by simpa using h
  rw [rdNum_ok _ 1 1 (by simp)] at h1
  have e1':leN ((x0::t).take 1)=x0.toNat:=by simp [leN]
  rw [e1'] at h1
  by_cases hx:1 < x0.toNat
  ·rw [if_pos hx] at h1
   have ha:b1=t:=congrArg (fun p:Nat × Lb8 × Nat=>p.2.1) h1
   have hb:e1=3:=congrArg (fun p:Nat × Lb8 × Nat=>p.2.2) h1
   rw [hb,rdNum_bad _ 3 4 _ (by decide)] at h2
   have hd:e2=3:=congrArg (fun p:Nat × Lb8 × Nat=>p.2.2) h2
   rw [hd,rdTake_bad _ 3 32 (by decide)] at h3
   exact .inr ⟨by rw [h3],by unfold parseRf;rw [if_pos (.inr (by simpa using hx))]⟩
  ·rw [if_neg hx] at h1
   have h0:n1=x0.toNat:=congrArg (fun p:Nat × Lb8 × Nat=>p.1) h1
   have ha:b1=t:=congrArg (fun p:Nat × Lb8 × Nat=>p.2.1) h1
   have hb:e1=0:=congrArg (fun p:Nat × Lb8 × Nat=>p.2.2) h1
   rw [hb,ha,rdNum_ok _ 4 4294967295 (by omega),leN_lew t (by omega),if_neg (by have:=(lew t 0).isLt;omega)] at h2
   have k0:n2=(lew t 0).toNat:=congrArg (fun p:Nat × Lb8 × Nat=>p.1) h2
   have ka:b2=t.drop 4:=congrArg (fun p:Nat × Lb8 × Nat=>p.2.1) h2
   have kb:e2=0:=congrArg (fun p:Nat × Lb8 × Nat=>p.2.2) h2
   rw [kb,ka,rdTake_ok _ 32 (by rw [List.length_drop];omega)] at h3
   rw [h3]
   refine .inl ⟨rfl,?_⟩
   unfold parseRf
   rw [if_neg (by simp only [List.getD_cons_zero,h];omega)]
   unfold rfOf padR
   have e5:(t.drop 4).take 32=t.drop 4:=List.take_of_length_le (by rw [List.length_drop];omega)
   simp only
   rw [e5,if_neg (fun e=>by have:=congrArg List.length e;rw [List.length_drop,ht,List.length_nil] at this;omega)]
   have e6:BitVec.ofNat 32 (lew t 0).toNat=lew t 0:=by simp
   rw [h0,k0,e6]
   rfl
structure PInv9 (w:World) (br bx:Nat) (Z C:Array Value) (b:Lb8) (e:Nat) (W:World):Prop where
 r:RPk W br b e
 ar:At W w.heap.size Z 38
 ag:At W bx C 38
 l:Below w.heap.size w W
section
variable {w W W':World} {br bx:Nat} {Z C C':Array Value} {b b':Lb8} {e e':Nat}
theorem PInv9.call (h:PInv9 w br bx Z C b e W) (h1:w.heap.size < br) (h2:br < bx) (hp:PkEnd RPk W br b' e' W'):PInv9 w br bx Z C b' e' W':=
 ⟨hp.r,h.ar.but hp.o (by omega),h.ag.but hp.o (by omega),hp.k _ _ h.l (by omega)⟩
theorem PInv9.store (h:PInv9 w br bx Z C b e W) (h1:w.heap.size < br) (h2:br < bx) (ha:At W' bx C' 38) (ho:∀ k,k≠bx→W'.heap[k]?=W.heap[k]?) (hk:∀ B x,Below B x W→B≤bx→Below B x W'):PInv9 w br bx Z C' b e W':=by
 have hs:W.heap.size≤W'.heap.size:=(hk _ _ (Below.refl bx W) (Nat.le_refl _)).size
 have hb:But bx W W':=⟨hs,fun k _ hne=>ho k hne⟩
 exact ⟨h.r.above hb h2,h.ar.but hb (by omega),ha,hk _ _ h.l (by omega)⟩
theorem PInv9.drew (h:PInv9 w br bx Z C b e W):PInv9 w br bx Z C b e W.drew:=
 ⟨h.r.below (Below.refl _ _).drew,h.ar.below (Below.refl _ _).drew h.ar.lt,h.ag.below (Below.refl _ _).drew h.ag.lt,h.l.drew⟩
end
theorem conv_ui9 (x:Nat) (_h:x < 65536) (w:World):(convert 190 3 (.int .u64 (x:Int))).run Tryz.prog w=.ok (.int .i64 (x:Int)) w:=by
 have h2:IntKind.i64.wrap (x:Int)=(x:Int):=by simp [IntKind.wrap,IntKind.bits,IntKind.signed];omega
 go_simp
theorem conv_u329 (x:Nat) (_h:x < 4294967296) (w:World):(convert 190 36 (.int .u64 (x:Int))).run Tryz.prog w=.ok (.int .u32 (x:Int)) w:=by
 have h2:IntKind.u32.wrap (x:Int)=(x:Int):=by rw [IntKind.wrap_u32];omega
 go_simp
theorem pparse9_any (b:Lb8) (v:Value) (w:World) (hv:Sl w v b) (_hb:b.length≤1000) :
 Calls Tryz.prog 165 #[v] w fun e w'=>e=.returned (.tuple #[.agg (refC (parseRf b).1),.int .i64 (parseRf b).2])∧Below w.heap.size w w':=by
 obtain ⟨Z,hZ⟩:∃ Z,Z=refC zref:=⟨_,rfl⟩
 have zs:Z.size=34:=by rw [hZ];exact refC_size zref_wf
 have zo:Z.all (·.oneCell')=true:=by rw [hZ];exact refC_one _
 have hx:∀ w,(zeroValue 38).run Tryz.prog w=.ok (.agg Z) w:=by rw [hZ];exact zeroRfP
 have bn:∀ w,(Instr.build 38 #[]).run Tryz.prog w=.ok (.agg Z) w:=by rw [hZ];exact buildPf0
 have az:=at_new w Z 38
 have bz:Below w.heap.size w (w.alloc (.cells Z 38)):=(Below.refl _ _).alloc (Nat.le_refl _) _
 have hv1:=hv.below bz
 by_cases h37:b.length=37
 ·have hrd:=fun wx h=>read_any b v wx h (by omega)
  obtain ⟨r1,hr1⟩:∃ r,r=rdNum b 0 1 1:=⟨_,rfl⟩
  have lt1:r1.1≤1:=by rw [hr1];exact rdNum_le _ _ _ _
  have ll1:r1.2.1.length≤8000:=by rw [hr1];exact Nat.le_trans (rdNum_len _ _ _ _) (by omega)
  have nu1:∀ br wx,RPk wx br b 0→Calls Tryz.prog 164 #[rp br,.int .i64 1,.int .u64 1] wx fun o w'=>o=.returned (.int .u64 ((r1.1:Nat):Int))∧PkEnd RPk wx br r1.2.1 r1.2.2 w':=fun br wx h=>by rw [hr1];exact pnumget_any b 0 1 1 br wx h (by omega) (by omega)
  obtain ⟨n1,b1,e1⟩:=r1
  simp only at lt1 ll1 nu1
  obtain ⟨r2,hr2⟩:∃ r,r=rdNum b1 e1 4 4294967295:=⟨_,rfl⟩
  have lt2:r2.1≤4294967295:=by rw [hr2];exact rdNum_le _ _ _ _
  have ll2:r2.2.1.length≤8000:=by rw [hr2];exact Nat.le_trans (rdNum_len _ _ _ _) ll1
  have nu2:∀ br wx,RPk wx br b1 e1→Calls Tryz.prog 164 #[rp br,.int .i64 4,.int .u64 4294967295] wx fun o w'=>o=.returned (.int .u64 ((r2.1:Nat):Int))∧PkEnd RPk wx br r2.2.1 r2.2.2 w':=fun br wx h=>by rw [hr2];exact pnumget_any b1 e1 4 4294967295 br wx h ll1 (by omega)
  obtain ⟨n2,b2,e2⟩:=r2
  simp only at lt2 ll2 nu2
  obtain ⟨r3,hr3⟩:∃ r,r=rdTake b2 e2 32:=⟨_,rfl⟩
  have lt3:r3.x=[]∨r3.x.length=32:=by rw [hr3];exact rdTake_x _ _ _
  have nu3:∀ br wx,RPk wx br b2 e2→Calls Tryz.prog 166 #[rp br,.int .i64 32] wx fun o w'=>∃ v,o=.returned v∧Sl w' v r3.x∧PkEnd RPk wx br r3.b r3.e w':=fun br wx h=>by rw [hr3];exact pbytes_any b2 e2 32 br wx h ll2 (by decide) (by decide)
  have hsp:=parse_spec b h37 n1 n2 e1 e2 b1 b2 r3 hr1 hr2 hr3
  obtain ⟨C1,hC1⟩:∃ C,C=refC ⟨(n1:Int),0,List.replicate 32 0⟩:=⟨_,rfl⟩
  obtain ⟨C2,hC2⟩:∃ C,C=refC ⟨(n1:Int),BitVec.ofNat 32 n2,List.replicate 32 0⟩:=⟨_,rfl⟩
  obtain ⟨C3,hC3⟩:∃ C,C=refC ⟨(n1:Int),BitVec.ofNat 32 n2,padR r3.x⟩:=⟨_,rfl⟩
  have q1:Z.setIfInBounds 0 (.int .i64 (n1:Int))=C1:=by rw [hZ,hC1];exact pref_set0 zref _
  have q2:C1.setIfInBounds 1 (.int .u32 (n2:Int))=C2:=by rw [hC1,hC2];exact pref_set1 _ n2 lt2
  have q3:(if r3.x=[] then C2 else (C2.toList.take 2++u8s r3.x++C2.toList.drop (2+32)).toArray)=C3:=by rw [hC2,hC3];exact pref_copy _ r3.x rfl
  have s1:C1.size=34:=by rw [hC1];exact refC_size ⟨by show _≤(n1:Int);omega,by show (n1:Int)≤_;omega,by simp⟩
  have s2:C2.size=34:=by rw [hC2];exact refC_size ⟨by show _≤(n1:Int);omega,by show (n1:Int)≤_;omega,by simp⟩
  have s3:C3.size=34:=by rw [hC3];exact refC_size ⟨by show _≤(n1:Int);omega,by show (n1:Int)≤_;omega,padR_len _ lt3⟩
  have o3:C3.all (·.oneCell')=true:=by rw [hC3];exact refC_one _
  obtain ⟨x3,b3,e3⟩:=r3
  simp only at lt3 nu3 q3 hsp
  obtain ⟨a0,c0,rfl⟩:=sl_inv hv
  rw [h37] at hv1 hrd ⊢
  have hsp2:(e3=0∧refC (parseRf b).1=C3∧(parseRf b).2=0)∨(e3=3∧refC (parseRf b).1=Z∧(parseRf b).2=1):=by
   rcases hsp with ⟨h1,h2⟩ | ⟨h1,h2⟩
   ·exact .inl ⟨h1,by rw [h2,hC3],by rw [h2]⟩
   ·exact .inr ⟨h1,by rw [h2,hZ],by rw [h2]⟩
  obtain ⟨PR,hPR⟩:∃ PR,PR=parseRf b:=⟨_,rfl⟩
  rw [←hPR] at hsp2 ⊢
  have SP:=zh hsp2;have ZS:=zh zs;have ZO:=zh zo;have BN:=zh bn;have AZ:=zh az;have BZ:=zh bz;have HV:=zh hv1;have RD:=zh hrd;have NU1:=zh nu1;have NU2:=zh nu2;have NU3:=zh nu3;have LT3:=zh lt3;have Q1:=zh q1;have Q2:=zh q2;have Q3:=zh q3;have S1:=zh s1;have S2:=zh s2;have S3:=zh s3;have O3:=zh o3
  clear hsp hsp2 zs zo bn az bz hv1 hv hrd nu1 nu2 nu3 lt3 q1 q2 q3 s1 s2 s3 o3 hC1 hC2 hC3 hZ hr1 hr2 hr3 ll1 ll2 _hb h37 hPR
  have pe:=fun br wx (h:RPk wx br b3 e3)=>perr0_any b3 e3 br wx h
  have PE:=zh pe
  clear pe
  go_enter Tryz.func165,Tryz.ntmps165
  go_wp2_with fail
  refine (RD.out _ HV.out).mono ?_
  rintro e w2 ⟨br,rfl,hbr,hr2,hb2⟩
  have hbr1:w.heap.size < br:=by have h:=hbr;simp at h;omega
  have hbx:br < w2.heap.size:=hr2.lt
  have I0:Hid (PInv9 w br w2.heap.size Z Z b 0 (w2.alloc (.cells Z 38))):=zh ⟨hr2.below ((Below.refl _ _).alloc (Nat.le_refl _) _),(AZ.out.below hb2 AZ.out.lt).alloc _,at_new w2 Z _,(BZ.out.trans (hb2.mono BZ.out.size)).alloc (Nat.le_trans BZ.out.size hb2.size) _⟩
  have HB1:=zh hbr1;have HB2:=zh hbx
  clear hbr hr2 hb2 RD HV AZ BZ hbr1 hbx
  go_wp2_with fail
  clear hx
  refine (NU1.out br _ I0.out.r).mono ?_
  rintro e w3 ⟨rfl,hp⟩
  have J1:=zh (I0.out.call HB1.out HB2.out hp)
  clear hp I0
  go_wp2_with (first
   | (refine wpList_conv zr _ _ _ _ (.int .i64 (n1:Int)) zr zr (fun wx=>conv_ui9 n1 (by omega) wx) ?_)
   | (refine Mem.wpList_store_one zr 3 _ _ zr zr w2.heap.size 0 (.int .i64 (n1:Int)) zr zr zr (by kernel_rfl) Z 38 J1.out.ag (by rw [ZS.out];decide) ?_;intro w4 ha ho hk;rw [Q1.out] at ha;have I1:=zh (J1.out.store HB1.out HB2.out ha ho hk);clear ha ho hk))
  refine (NU2.out br _ I1.out.r).mono ?_
  rintro e w5 ⟨rfl,hp⟩
  have J2:=zh (I1.out.call HB1.out HB2.out hp)
  clear hp I1 J1
  go_wp2_with (first
   | (refine wpList_conv zr _ _ _ _ (.int .u32 (n2:Int)) zr zr (fun wx=>conv_u329 n2 (by omega) wx) ?_)
   | (refine Mem.wpList_store_one zr 36 _ _ zr zr w2.heap.size 1 (.int .u32 (n2:Int)) zr zr zr (by kernel_rfl) C1 38 J2.out.ag (by rw [S1.out];decide) ?_;intro w6 ha ho hk;rw [Q2.out] at ha;have I2:=zh (J2.out.store HB1.out HB2.out ha ho hk);clear ha ho hk))
  refine wp_region_plan_in (fun _=>True) (.take 0 (.take 1 (.take 2 (.sole 3 (.sole 4 .done))))) (by kernel_rfl) (by kernel_rfl) (by kernel_rfl) trivial ?_
  refine plan_field 38 _ 2 w2.heap.size 0 ⟨w2.heap.size,2,none⟩ (by rfl) (by rfl) (by rfl) ze (fun wx=>by go_simp) ?_
  (simp only [Mem.zp,Mem.pb,Mem.pc])
  refine plan_cut 22 _ 32 5 w2.heap.size 2 (by rfl) (by rfl) (by rfl) ze Tryz.underlying22 infoB ?_
  (simp only [Mem.zp,Mem.pb,Mem.pc])
  (first | refine Mem.pm1 ?_ | refine Mem.pm2 ?_ | refine Mem.pt ?_ | refine Mem.pf ?_)
  (simp only [Mem.zp,Mem.pb,Mem.pc])
  refine plan_call 166 _ _ _ (by kernel_rfl) (by rfl) (by rfl) (by rfl) (by first | exact Mem.ev_none _ | (simp only [List.map_toArray,List.map_cons,List.map_nil,Mem.ev_tmp,List.getD_cons_succ,List.getD_cons_zero] <;> rfl)) ?_
  refine (NU3.out br _ I2.out.drew.r).mono ?_
  rintro e w7 ⟨vx,rfl,hsx,hp⟩
  have J3:=zh (I2.out.drew.call HB1.out HB2.out hp);have SX:=zh hsx
  clear hp hsx I2 J2
  refine ⟨_,rfl,trivial,?_⟩
  (simp only [Mem.zp,Mem.pb,Mem.pc])
  refine plan_copy_row _ _ (by rfl) (by rfl) (by rfl) w2.heap.size 2 C2 38 _ x3 ze ze SX.out LT3.out J3.out.ag (by rw [S2.out];decide) C3 Q3.out ?_
  intro nv w8 ha ho hk
  have I3:=zh (J3.out.store HB1.out HB2.out ha ho hk)
  clear ha ho hk SX J3
  refine ⟨trivial,?_⟩
  (simp only [Mem.zp,Mem.pb,Mem.pc])
  refine plan_nil ?_
  go_wp2_with fail
  refine (PE.out br _ I3.out.r).mono ?_
  rintro e w9 ⟨rfl,rfl⟩
  rcases SP.out with ⟨he,h1,h2⟩ | ⟨he,h1,h2⟩
  ·subst he
   go_wp2_with (first
    | (refine wpList_load_all zr 38 _ zr w2.heap.size zr _ Tryz.underlying38 zr C3 _ I3.out.ag (by rw [S3.out];exact infoRfP) ?_)
    | (refine wpList_store_all zr 38 _ _ zr zr w.heap.size C3 zr zr (by rw [S3.out];exact infoRfP) Z 38 I3.out.ar (by rw [S3.out,ZS.out]) O3.out ?_))
   try simp only [Exit.inBlock,Exit.then]
   refine ret_row_tmp zr w.heap.size 38 C3 _ (.int .i64 0) zr zr (I3.out.ar.row C3) Tryz.underlying38 zr (by rw [S3.out];exact infoRfP) ?_
   exact ⟨by rw [h1,h2],below_row I3.out.l (Nat.le_refl _) C3⟩
  ·subst he
   go_wp2_with (first
    | (refine Mem.wpList_build zr 38 _ #[] (.agg Z) zr (by simp) BN.out ?_)
    | (refine wpList_store_all zr 38 _ _ zr zr w.heap.size Z zr zr (by rw [ZS.out];exact infoRfP) Z 38 I3.out.ar zr ZO.out ?_))
   try simp only [Exit.inBlock,Exit.then]
   refine ret_row_tmp zr w.heap.size 38 Z _ (.int .i64 1) zr zr (I3.out.ar.row Z) Tryz.underlying38 zr (by rw [ZS.out];exact infoRfP) ?_
   exact ⟨by rw [h1,h2],below_row I3.out.l (Nat.le_refl _) Z⟩
 ·have e0:parseRf b=(zref,1):=by unfold parseRf;rw [if_pos (.inl h37)]
  rw [e0]
  obtain ⟨a0,c0,rfl⟩:=sl_inv hv
  obtain ⟨n,hn⟩:∃ n,n=b.length:=⟨_,rfl⟩
  rw [←hn] at h37 hv1 ⊢
  have h37':¬ (n:Int)=37:=by omega
  simp only
  rw [←hZ]
  have ZS:=zh zs;have ZO:=zh zo;have BN:=zh bn;have AZ:=zh az;have BZ:=zh bz
  clear hv hv1 zs zo bn az bz hZ hn e0 _hb h37
  go_enter Tryz.func165,Tryz.ntmps165
  go_upto_region 1 with fail
  clear hx
  generalize w.alloc (.cells Z 38)=w1 at *
  go_wp2_with (first
   | (refine Mem.wpList_build zr 38 _ #[] (.agg Z) zr (by simp) BN.out ?_)
   | (refine wpList_store_all zr 38 _ _ zr zr w.heap.size Z zr zr (by rw [ZS.out];exact infoRfP) Z 38 AZ.out zr ZO.out ?_))
  try simp only [Exit.inBlock,Exit.then]
  refine ret_row_tmp zr w.heap.size 38 Z _ (.int .i64 1) zr zr (AZ.out.row Z) Tryz.underlying38 zr (by rw [ZS.out];exact infoRfP) ?_
  exact ⟨rfl,below_row BZ.out (Nat.le_refl _) Z⟩
end Sha
end Go.Proofs.YtlhnegbjoncieaaGreatDoor
namespace Go.Proofs.YtlhnegbjoncieaaGreatDoor
namespace Sha
open Go.RowKit Mem
set_option maxRecDepth 100000
theorem isMany_any (z:Int) (w:World):Calls Tryz.prog 110 #[.int .i64 z] w fun e w'=>e=.returned (.bool (decide (1≤z∧z≤6)))∧w'=w:=by
 by_cases h1:1≤z
 ·by_cases h6:z≤6
  ·rw [decide_eq_true ⟨h1,h6⟩]
   go_enter Tryz.func110,Tryz.ntmps110
   go_wp2_with fail
   go_ret
   exact ⟨rfl,rfl⟩
  ·rw [decide_eq_false (fun h=>h6 h.2)]
   go_enter Tryz.func110,Tryz.ntmps110
   go_wp2_with fail
   go_ret
   exact ⟨rfl,rfl⟩
 ·rw [decide_eq_false (fun h=>h1 h.1)]
  go_enter Tryz.func110,Tryz.ntmps110
  go_wp2_with fail
  go_ret
  exact ⟨rfl,rfl⟩
def TkE (w:World) (L:List RefV) (n:Int) (e:Ending) (w':World):Prop:=e=.returned (.tuple #[.agg (tkC (pad6 L) L.length),.int .i64 n])∧Below w.heap.size w w'
structure TInv (w:World) (br bt:Nat) (Z C:Array Value) (b:Lb8) (e:Nat) (W:World):Prop where
 r:RPk W br b e
 ar:At W w.heap.size Z 221
 ag:At W bt C 221
 l:Below w.heap.size w W
 o1:w.heap.size < br
 o2:br < bt
section
variable {w W W':World} {br bt:Nat} {Z C C':Array Value} {b b':Lb8} {e e':Nat}
theorem TInv.call (h:TInv w br bt Z C b e W) (hp:PkEnd RPk W br b' e' W'):TInv w br bt Z C b' e' W':=
 ⟨hp.r,h.ar.but hp.o (by have:=h.o1;omega),h.ag.but hp.o (by have:=h.o2;omega),hp.k _ _ h.l (by have:=h.o1;omega),h.o1,h.o2⟩
theorem TInv.below (h:TInv w br bt Z C b e W) (hb:Below W.heap.size W W'):TInv w br bt Z C b e W':=
 ⟨h.r.below hb,h.ar.below hb h.ar.lt,h.ag.below hb h.ag.lt,h.l.trans (hb.mono h.l.size),h.o1,h.o2⟩
theorem TInv.row (h:TInv w br bt Z C b e W) (D:Array Value):TInv w br bt Z D b e (W.setRow bt D):=by
 have hs:But bt W (W.setRow bt D):=⟨by simp,fun k _ hne=>setRow_other W bt k D hne⟩
 exact ⟨h.r.above hs h.o2,h.ar.but hs (by have:=h.o1;have:=h.o2;omega),h.ag.row D,below_row h.l (by have:=h.o1;have:=h.o2;omega) D,h.o1,h.o2⟩
end
theorem num_page (p:Lb8) (hp:p.length=256) (n e1:Nat) (b1:Lb8) (h:(n,b1,e1)=rdNum p 0 1 6) :
 b1=p.drop 1∧((6 < (p.getD 0 0).toNat∧n=0∧e1=3)∨((p.getD 0 0).toNat≤6∧n=(p.getD 0 0).toNat∧e1=0)):=by
 match p,hp with
 | a::t,hp=>
  rw [rdNum_ok _ 1 6 (by simp)] at h
  have e:leN ((a::t).take 1)=a.toNat:=by simp [leN]
  rw [e] at h
  by_cases g:6 < a.toNat
  ·rw [if_pos g] at h
   injection h with h1 h2
   injection h2 with h2 h3
   exact ⟨h2,.inl ⟨g,h1,h3⟩⟩
  ·rw [if_neg g] at h
   injection h with h1 h2
   injection h2 with h2 h3
   exact ⟨h2,.inr ⟨Nat.le_of_not_lt g,h1,h3⟩⟩
theorem rest_page (p:Lb8) (hp:p.length=256) (n e1:Nat) (h:(6 < (p.getD 0 0).toNat∧n=0∧e1=3)∨((p.getD 0 0).toNat≤6∧n=(p.getD 0 0).toNat∧e1=0)) :
 (rdRest (p.drop (1+37*n)) e1=0∧n=(p.getD 0 0).toNat∧zerosFrom p (1+37*n))∨(rdRest (p.drop (1+37*n)) e1=3∧allN p=([],9)):=by
 rcases h with ⟨h1,rfl,rfl⟩ | ⟨h1,h2,rfl⟩
 ·exact .inr ⟨rfl,allN_few p hp (.inr h1)⟩
 ·cases hz:allZ (p.drop (1+37*n))
  ·refine .inr ⟨by unfold rdRest;rw [if_pos ⟨rfl,hz⟩],?_⟩
   unfold allZ at hz
   obtain ⟨y,hy,hy0⟩:=List.all_eq_false.1 hz
   obtain ⟨j,hj,e⟩:=List.mem_iff_getElem.1 hy
   have hjl:1+37*n+j < p.length:=by rw [List.length_drop] at hj;omega
   rw [List.getElem_drop] at e
   refine allN_tail p hp n (1+37*n+j) h2.symm (by omega) (by omega) (by omega) ?_
   rw [List.getD_eq_getElem?_getD,List.getElem?_eq_getElem hjl,Option.getD_some,e]
   simpa using hy0
  ·refine .inl ⟨by unfold rdRest;rw [if_neg (fun h=>by rw [hz] at h;cases h.2)],h2,fun j h3 h4=>?_⟩
   unfold allZ at hz
   have hm:p.getD j 0∈p.drop (1+37*n):=by
    rw [List.mem_iff_getElem]
    refine ⟨j - (1+37*n),by rw [List.length_drop];omega,?_⟩
    rw [List.getElem_drop,List.getD_eq_getElem?_getD]
    have:1+37*n+(j - (1+37*n))=j:=by omega
    simp [this,h4]
   simpa using List.all_eq_true.1 hz _ hm
theorem take_page (p:Lb8) (v:Value) (w:World) (hv:Sl w v p) (hp:p.length=256):Calls Tryz.prog 139 #[v] w (TkE w (allN p).1 (allN p).2):=by
 have hfew:=allN_few p hp
 have hgood:=fun m h0 h1 h6 hpl hz=>allN_good p hp m h0 h1 h6 hpl hz
 have hplace:=fun m i h0 h6 hi h=>allN_place p hp m i h0 h6 hi h
 have hrd:=fun wx h=>read_any p v wx h (by omega)
 obtain ⟨r1,hr1⟩:∃ r,r=rdNum p 0 1 6:=⟨_,rfl⟩
 have hnu:∀ br wx,RPk wx br p 0→Calls Tryz.prog 164 #[rp br,.int .i64 1,.int .u64 6] wx fun o w'=>o=.returned (.int .u64 ((r1.1:Nat):Int))∧PkEnd RPk wx br r1.2.1 r1.2.2 w':=fun br wx h=>by rw [hr1];exact pnumget_any p 0 1 6 br wx h (by omega) (by omega)
 obtain ⟨n,b1,e1⟩:=r1
 simp only at hnu
 obtain ⟨hb1,hcase⟩:=num_page p hp n e1 b1 hr1
 subst hb1
 have hrest:=rest_page p hp n e1 hcase
 have hn6:n≤6:=by rcases hcase with h | h <;> omega
 have hpos:0 < n→e1=0∧n=(p.getD 0 0).toNat:=fun h=>by rcases hcase with a | a <;> omega
 have hby:∀ i br wx,i < n→RPk wx br (p.drop (1+37*i)) e1→Calls Tryz.prog 166 #[rp br,.int .i64 37] wx fun o w'=>∃ v,o=.returned v∧Sl w' v (pieceN p i)∧PkEnd RPk wx br (p.drop (1+37*(i+1))) e1 w':=fun i br wx hi h=>by
  obtain ⟨he,_⟩:=hpos (by omega)
  subst he
  have h2:=pbytes_any (p.drop (1+37*i)) 0 37 br wx h (by rw [List.length_drop];omega) (by decide) (by decide)
  have e:rdTake (p.drop (1+37*i)) 0 (37:Int).toNat=⟨pieceN p i,p.drop (1+37*(i+1)),0⟩:=by
   show rdTake (p.drop (1+37*i)) 0 37=_
   rw [rdTake_ok _ 37 (by rw [List.length_drop];omega),List.drop_drop,show 1+37*i+37=1+37*(i+1) by omega]
   rfl
  rw [e] at h2
  exact h2
 have hpa:∀ i wx u,i < n→Sl wx u (pieceN p i)→Calls Tryz.prog 165 #[u] wx fun e w'=>e=.returned (.tuple #[.agg (refC (parseRf (pieceN p i)).1),.int .i64 (parseRf (pieceN p i)).2])∧Below wx.heap.size wx w':=fun i wx u hi h=>pparse9_any (pieceN p i) u wx h (by rw [piece_length p i hp (by omega)];decide)
 have hpc:=fun i (hi:i < n)=>parse_piece p i hp (by omega)
 have hre:=fun br wx h=>prest_any (p.drop (1+37*n)) e1 br wx h (by rw [List.length_drop];omega)
 obtain ⟨rr,hrr⟩:∃ rr,rr=rdRest (p.drop (1+37*n)) e1:=⟨_,rfl⟩
 rw [←hrr] at hrest hre
 have hwf:=fun m (hm:m≤n)=>refsN_wf p m hp (by omega)
 have hrs:=fun m=>refsN_succ p m
 have hrl:=fun m=>refsN_length p m
 obtain ⟨Y,hY⟩:∃ Y,Y=allN p:=⟨_,rfl⟩
 rw [←hY] at hfew hgood hplace hrest ⊢
 obtain ⟨a0,c0,rfl⟩:=sl_inv hv
 rw [hp] at hv hrd ⊢
 obtain ⟨x,hx⟩:∃ x,x=(p.getD 0 0).toNat:=⟨_,rfl⟩
 rw [←hx] at hfew hgood hplace hpos hrest hcase
 have hxz:=zeroTk
 have bn:=buildTk0
 have b1n:=buildTk1 n
 obtain ⟨Z,hZ⟩:∃ Z,Z=tkC (pad6 []) 0:=⟨_,rfl⟩
 obtain ⟨C0,hC0⟩:∃ C,C=tkC (pad6 []) n:=⟨_,rfl⟩
 have zs:Z.size=205:=by rw [hZ];exact tkC_size (pad6_wf (fun _ h=>nomatch h)) (pad6_len (by decide))
 have zo:Z.all (·.oneCell')=true:=by rw [hZ];exact tkC_one
 have cs:C0.size=205:=by rw [hC0];exact tkC_size (pad6_wf (fun _ h=>nomatch h)) (pad6_len (by decide))
 have co:C0.all (·.oneCell')=true:=by rw [hC0];exact tkC_one
 have cm:C0[204]?=some (.int .i64 (n:Int)):=by rw [hC0];exact tkC_many (pad6_wf (fun _ h=>nomatch h)) (pad6_len (by decide))
 rw [←hZ] at hxz bn
 rw [←hC0] at b1n
 have bz:Below w.heap.size w (w.alloc (.cells Z 221)):=(Below.refl _ _).alloc (Nat.le_refl _) _
 have az:=at_new w Z 221
 have hv1:=hv.below bz
 have FEW:=zh hfew;have GOOD:=zh hgood;have PLACE:=zh hplace;have RD:=zh hrd;have NU:=zh hnu;have REST:=zh hrest;have POS:=zh hpos;have BY:=zh hby;have PA:=zh hpa;have PC:=zh hpc;have RE:=zh hre;have WF:=zh hwf;have RS:=zh hrs;have RL:=zh hrl;have HP:=zh hp;have HX:=zh hx
 have BN:=zh bn;have B1N:=zh b1n;have HZ:=zh hZ;have HC0:=zh hC0;have ZS:=zh zs;have ZO:=zh zo;have CS:=zh cs;have CO:=zh co;have CM:=zh cm;have BZ:=zh bz;have AZ:=zh az;have HV:=zh hv1
 clear hfew hgood hplace hrd hnu hrest hpos hby hpa hpc hre hwf hrs hrl hp hx bn b1n hZ hC0 zs zo cs co cm bz az hv1 hv hY hcase hrr hr1
 have hx:=hxz
 clear hxz
 go_enter Tryz.func139,Tryz.ntmps139
 go_wp2_with fail
 refine (RD.out _ HV.out).mono ?_
 rintro e w2 ⟨br,rfl,hbr,hr2,hb2⟩
 have HBR:=zh hbr;have R2:=zh hr2
 have B2:Hid (Below w.heap.size w w2):=zh (BZ.out.trans (hb2.mono BZ.out.size))
 have A2:=zh (AZ.out.below hb2 AZ.out.lt)
 clear hbr hr2 hb2
 go_wp2_with fail
 refine (NU.out br _ R2.out).mono ?_
 rintro e w3 ⟨rfl,hpk⟩
 have hbr1:w.heap.size < br:=by have h:=HBR.out;simp at h;omega
 have R3:=zh hpk.r
 have A3:=zh (A2.out.but hpk.o (by omega));have B3:Hid (Below w.heap.size w w3):=zh (hpk.k _ _ B2.out (by omega))
 have O1:=zh hbr1;have O2:=zh hpk.r.lt
 clear hpk hbr1 A2 B2 R2
 have I0:Hid (TInv w br w3.heap.size Z C0 (p.drop 1) e1 (w3.alloc (.cells C0 221))):=zh ⟨R3.out.below ((Below.refl _ _).alloc (Nat.le_refl _) _),A3.out.alloc _,at_new _ _ _,B3.out.alloc B3.out.size _,O1.out,O2.out⟩
 have cm:(w3.alloc (.cells C0 221)).cell? ⟨w3.heap.size,204,none⟩=some (.int .i64 (n:Int)):=(I0.out.ag.cell 204).trans CM.out
 go_wp2_with (first
  | (refine wpList_conv zr _ _ _ _ (.int .i64 (n:Int)) zr zr (fun wx=>conv_ui9 n (by omega) wx) ?_)
  | (refine Mem.wpList_build zr 221 _ #[(1,.int .i64 (n:Int))] (.agg C0) zr (by simp [Act.eval,Act.put]) B1N.out ?_)
  | (refine wpList_store_new zr 221 _ _ zr zr C0 _ _ zr zr (by rw [CS.out];exact infoTk) (by rw [ZS.out,CS.out]) CO.out ?_))
 clear cm hx
 obtain ⟨bt,hbt⟩:∃ bt,bt=w3.heap.size:=⟨_,rfl⟩
 rw [←hbt] at I0 O2 ⊢
 clear hbt
 generalize w3.alloc (.cells C0 221)=w4 at *
 have cm:w4.cell? ⟨bt,204,none⟩=some (.int .i64 (n:Int)):=(I0.out.ag.cell 204).trans CM.out
 have I1:Hid (TInv w br bt Z (tkC (pad6 (refsN p 0)) n) (p.drop (1+37*0)) e1 w4):=zh (by
  have h:=I0.out
  rw [HC0.out] at h
  exact h)
 go_upto_region 6 with fail
 clear I0 cm
 go_loopw [21] (fun vi wr=>∃ i:Nat,i≤n∧vi=.int .i64 (i:Int)∧TInv w br bt Z (tkC (pad6 (refsN p i)) n) (p.drop (1+37*i)) e1 wr∧(∀ k,k < i→((pieceN p k).getD 0 0).toNat≤1)) (fun vi _=>n - (intOf vi).toNat)
 case atStart=>exact ⟨0,by omega,rfl,I1.out,fun k hk=>by omega⟩
 case round=>
  obtain ⟨i,hi,rfl,hI,hpl⟩:=hrel
  have PL:=zh hpl
  have hwl:=WF.out i hi
  have hll:=RL.out i
  have hp6:(refsN p i).length≤6:=by omega
  have hcm:(tkC (pad6 (refsN p i)) n)[204]?=some (.int .i64 (n:Int)):=tkC_many (pad6_wf hwl) (pad6_len hp6)
  have hcs:(tkC (pad6 (refsN p i)) n).size=205:=tkC_size (pad6_wf hwl) (pad6_len hp6)
  have hco:(tkC (pad6 (refsN p i)) n).all (·.oneCell')=true:=tkC_one
  have hsp:∀ r:RefV,r.Wf→i < n→Mem.splice (tkC (pad6 (refsN p i)) n) (i*34) (refL r)=tkC (pad6 (refsN p i++[r])) n:=fun r hr hlt=>by
   rw [tkC_set (pad6_wf hwl) (pad6_len hp6) hr (by omega)]
   have h:=pad6_next (L:=refsN p i) r (by omega)
   rw [hll] at h
   rw [h]
  obtain ⟨C,hC⟩:∃ C,C=tkC (pad6 (refsN p i)) n:=⟨_,rfl⟩
  rw [←hC] at hI hcm hcs hco hsp
  have IW:=zh hI;have CMI:=zh hcm;have CSI:=zh hcs;have COI:=zh hco;have SP:=zh hsp;have HC:=zh hC
  clear hI hpl hwl hll hp6 hcm hcs hco hsp hC
  by_cases hlt:i < n
  ·have hlt2:(i:Int) < (n:Int):=by omega
   have hi6:i < 6:=by omega
   obtain ⟨he,hnx⟩:=POS.out (by omega)
   have hby:=fun br wx h=>BY.out i br wx hlt h
   have hpa:=fun wx u h=>PA.out i wx u hlt h
   have hpc:=PC.out i hlt
   have hpt:=PLACE.out n i hnx.symm hn6 hlt
   have hrs:=RS.out i
   have hwi:(rfOf (pieceN p i)).Wf:=rfOf_wf _ (piece_length p i HP.out hi6)
   have hpl2:¬ 1 < ((pieceN p i).getD 0 0).toNat→∀ k,k < i+1→((pieceN p k).getD 0 0).toNat≤1:=fun h k hk=>by
    rcases Nat.lt_or_ge k i with a | a
    ·exact PL.out k a
    ·rw [show k=i by omega];omega
   obtain ⟨s,hs⟩:∃ s,s=pieceN p i:=⟨_,rfl⟩
   rw [←hs] at hby hpa hpc hpt hrs hwi hpl2
   have BYI:=zh hby
   have hx:=zeroRfP
   obtain ⟨Zr,hZr⟩:∃ Z,Z=refC zref:=⟨_,rfl⟩
   have zrs:Zr.size=34:=by rw [hZr];exact refC_size zref_wf
   have zro:Zr.all (·.oneCell')=true:=by rw [hZr];exact refC_one zref
   rw [←hZr] at hx
   have ZRS:=zh zrs;have ZRO:=zh zro
   by_cases g1:1 < (s.getD 0 0).toNat
   ·rw [hpc,if_pos g1] at hpa
    simp only at hpa
    rw [←hZr] at hpa
    have PAI:=zh hpa;have HY:=zh (hpt g1)
    clear hby hpa hpc hpt hrs hwi hpl2 hs g1 zrs zro hZr he hnx
    go_wp2_with fail
    refine (BYI.out br _ IW.out.r).mono ?_
    rintro e w5 ⟨u,rfl,hsu,hpk⟩
    have J5:=zh (IW.out.call hpk);have SU:=zh hsu
    clear hsu hpk
    go_wp2_with fail
    refine (PAI.out _ _ SU.out).mono ?_
    rintro e w6 ⟨rfl,hb6⟩
    have J6:=zh ((J5.out.below hb6).below ((Below.refl _ _).alloc (Nat.le_refl _) (.cells Zr 38)))
    clear hb6 J5 SU
    go_wp2_with (first
     | (refine wpList_store_new zr 38 _ _ zr zr Zr _ _ zr zr (by rw [ZRS.out];exact infoRfP) zr ZRO.out ?_)
     | (refine Mem.wpList_build zr 221 _ #[] (.agg Z) zr (by simp) BN.out ?_)
     | (refine wpList_store_all zr 221 _ _ zr zr w.heap.size Z zr zr (by rw [ZS.out];exact infoTk) Z 221 J6.out.ar zr ZO.out ?_))
    try simp only [Exit.inBlock,Exit.then]
    refine ret_row_tmp zr w.heap.size 221 Z _ _ zr zr (J6.out.ar.row Z) Tryz.underlying221 zr (by rw [ZS.out];exact infoTk) ?_
    exact ⟨by rw [HY.out,HZ.out];rfl,below_row J6.out.l (Nat.le_refl _) Z⟩
   ·rw [hpc,if_neg g1] at hpa
    simp only at hpa
    obtain ⟨r,hr⟩:∃ r,r=rfOf s:=⟨_,rfl⟩
    rw [←hr] at hpa hwi hrs
    have hsp:=SP.out r hwi hlt
    rw [←hrs] at hsp
    obtain ⟨M,hM⟩:∃ M,M=refC r:=⟨_,rfl⟩
    have hml:M.toList=refL r:=by rw [hM];rfl
    have ms:M.size=34:=by rw [hM];exact refC_size hwi
    have mo:M.all (·.oneCell')=true:=by rw [hM];exact refC_one r
    rw [←hml] at hsp
    rw [←hM] at hpa
    have PAI:=zh hpa;have SPI:=zh hsp;have MS:=zh ms;have MO:=zh mo;have PL2:=zh (hpl2 g1)
    clear hby hpa hpc hpt hrs hwi hpl2 hs g1 zrs zro hZr he hnx hr hM hml ms mo hsp
    go_wp2_with fail
    refine (BYI.out br _ IW.out.r).mono ?_
    rintro e w5 ⟨u,rfl,hsu,hpk⟩
    have J5:=zh (IW.out.call hpk);have SU:=zh hsu
    clear hsu hpk
    go_wp2_with fail
    refine (PAI.out _ _ SU.out).mono ?_
    rintro e w6 ⟨rfl,hb6⟩
    have J6:=zh ((J5.out.below hb6).below ((Below.refl _ _).alloc (Nat.le_refl _) (.cells M 38)))
    have A6:=zh (at_new w6 M 38)
    clear hb6 J5 SU
    go_upto_region 11 with (refine wpList_store_new zr 38 _ _ zr zr M _ _ zr zr (by rw [MS.out];exact infoRfP) (by rw [MS.out,ZRS.out]) MO.out ?_)
    clear hx
    obtain ⟨l,hl⟩:∃ l,l=w6.heap.size:=⟨_,rfl⟩
    rw [←hl] at A6 ⊢
    clear hl
    generalize (w6.alloc (.cells M 38))=w7 at *
    go_wp2_with (first
     | (refine wpList_load_all zr 38 _ zr l zr _ Tryz.underlying38 zr M _ A6.out (by rw [MS.out];exact infoRfP) ?_)
     | (refine Mem.wpList_store_at zr 38 _ _ zr zr bt (i*34) M zr zr (by rw [MS.out];exact infoRfP) C 221 J6.out.ag (by rw [MS.out,CSI.out];omega) MO.out ?_;rw [SPI.out]))
    go_roundw
    case rel=>exact ⟨i+1,by omega,by go_num,J6.out.row _,PL2.out⟩
    case measure=>simp [intOf];omega
  ·have hin:i=n:=by omega
   subst hin
   have hge:¬ (i:Int) < (i:Int):=by omega
   go_wp2_with fail
   refine (RE.out br _ IW.out.r).mono ?_
   rintro e w5 ⟨rfl,hpk⟩
   have J5:=zh (IW.out.call hpk)
   clear hpk
   rcases REST.out with ⟨h0,hnx,hz⟩ | ⟨h3,hy⟩
   ·subst h0
    have cm:w5.cell? ⟨bt,204,none⟩=some (.int .i64 (i:Int)):=(J5.out.ag.cell 204).trans CMI.out
    have im:=isMany_any (i:Int) w5
    by_cases h1:1≤i
    ·rw [decide_eq_true (⟨by omega,by omega⟩:1≤(i:Int)∧(i:Int)≤6)] at im
     have hy:=GOOD.out i hnx.symm h1 hn6 PL.out hz
     have IM:=zh im;have HY:=zh hy;have RLI:=zh (RL.out i)
     clear im hy h1 hnx hz
     go_wp2_with fail
     refine IM.out.mono ?_
     rintro e w6 ⟨rfl,rfl⟩
     go_wp2_with (first
      | (refine wpList_load_all zr 221 _ zr bt zr _ Tryz.underlying221 zr C _ J5.out.ag (by rw [CSI.out];exact infoTk) ?_)
      | (refine wpList_store_all zr 221 _ _ zr zr w.heap.size C zr zr (by rw [CSI.out];exact infoTk) Z 221 J5.out.ar (by rw [CSI.out,ZS.out]) COI.out ?_))
     try simp only [Exit.inBlock,Exit.then]
     refine ret_row_tmp zr w.heap.size 221 C _ _ zr zr (J5.out.ar.row C) Tryz.underlying221 zr (by rw [CSI.out];exact infoTk) ?_
     exact ⟨by rw [HY.out,HC.out];simp only [RLI.out];rfl,below_row J5.out.l (Nat.le_refl _) C⟩
    ·rw [decide_eq_false (fun h:1≤(i:Int)∧(i:Int)≤6=>h1 (by omega))] at im
     have hy:=FEW.out (.inl (by omega))
     have IM:=zh im;have HY:=zh hy
     clear im hy h1 hnx hz
     go_wp2_with fail
     refine IM.out.mono ?_
     rintro e w6 ⟨rfl,rfl⟩
     go_wp2_with (first
      | (refine Mem.wpList_build zr 221 _ #[] (.agg Z) zr (by simp) BN.out ?_)
      | (refine wpList_store_all zr 221 _ _ zr zr w.heap.size Z zr zr (by rw [ZS.out];exact infoTk) Z 221 J5.out.ar zr ZO.out ?_))
     try simp only [Exit.inBlock,Exit.then]
     refine ret_row_tmp zr w.heap.size 221 Z _ _ zr zr (J5.out.ar.row Z) Tryz.underlying221 zr (by rw [ZS.out];exact infoTk) ?_
     exact ⟨by rw [HY.out,HZ.out];rfl,below_row J5.out.l (Nat.le_refl _) Z⟩
   ·subst h3
    have HY:=zh hy
    clear hy
    go_wp2_with (first
     | (refine Mem.wpList_build zr 221 _ #[] (.agg Z) zr (by simp) BN.out ?_)
     | (refine wpList_store_all zr 221 _ _ zr zr w.heap.size Z zr zr (by rw [ZS.out];exact infoTk) Z 221 J5.out.ar zr ZO.out ?_))
    try simp only [Exit.inBlock,Exit.then]
    refine ret_row_tmp zr w.heap.size 221 Z _ _ zr zr (J5.out.ar.row Z) Tryz.underlying221 zr (by rw [ZS.out];exact infoTk) ?_
    exact ⟨by rw [HY.out,HZ.out];rfl,below_row J5.out.l (Nat.le_refl _) Z⟩
theorem ptake_any (p:Lb8) (v:Value) (w:World) (hv:Sl w v p) (_hl:p.length≤1000):Calls Tryz.prog 139 #[v] w (TkE w (allN p).1 (allN p).2):=by
 by_cases hp:p.length=256
 ·exact take_page p v w hv hp
 ·have hy:allN p=([],1):=by unfold allN;rw [if_pos hp]
  obtain ⟨Y,hY⟩:∃ Y,Y=allN p:=⟨_,rfl⟩
  rw [←hY] at hy ⊢
  obtain ⟨a,c,rfl,_⟩:=hv
  have hne:¬ (p.length:Int)=256:=by omega
  obtain ⟨n,hn⟩:∃ n,n=p.length:=⟨_,rfl⟩
  rw [←hn] at hne ⊢
  have hx:=zeroTk
  have bn:=buildTk0
  obtain ⟨Z,hZ⟩:∃ Z,Z=tkC (pad6 []) 0:=⟨_,rfl⟩
  have zs:Z.size=205:=by rw [hZ];exact tkC_size (pad6_wf (fun _ h=>nomatch h)) (pad6_len (by decide))
  have zo:Z.all (·.oneCell')=true:=by rw [hZ];exact tkC_one
  rw [←hZ] at hx bn
  have az:=at_new w Z 221
  have bz:Below w.heap.size w (w.alloc (.cells Z 221)):=(Below.refl _ _).alloc (Nat.le_refl _) _
  have HY:=zh hy;have BN:=zh bn;have HZ:=zh hZ;have ZS:=zh zs;have ZO:=zh zo;have AZ:=zh az;have BZ:=zh bz
  clear hy hY hp hn _hl bn hZ zs zo az bz
  go_enter Tryz.func139,Tryz.ntmps139
  go_upto_region 1 with fail
  clear hx
  generalize w.alloc (.cells Z 221)=w1 at *
  go_wp2_with (first
   | (refine Mem.wpList_build zr 221 _ #[] (.agg Z) zr (by simp) BN.out ?_)
   | (refine wpList_store_all zr 221 _ _ zr zr w.heap.size Z zr zr (by rw [ZS.out];exact infoTk) Z 221 AZ.out zr ZO.out ?_))
  try simp only [Exit.inBlock,Exit.then]
  refine ret_row_tmp zr w.heap.size 221 Z _ _ zr zr (AZ.out.row Z) Tryz.underlying221 zr (by rw [ZS.out];exact infoTk) ?_
  exact ⟨by rw [HY.out,HZ.out];rfl,below_row BZ.out (Nat.le_refl _) Z⟩
end Sha
end Go.Proofs.YtlhnegbjoncieaaGreatDoor
