/- My own texts, merged. -/
import Derived.Test.YtddjdaocdfkgeaaGreatDoorBQ11
import Derived.Test.YtddjdaocdfkgeaaGreatDoorBQ10
import Derived.Test.YtddjdaocdfkgeaaGreatDoorBQ08
import Derived.Laws.CopyRow
import Derived.Laws.IdiomCopy
import Derived.Test.YtddjdaocdfkgeaaGreatDoorBQ09
import Derived.Test.YtddjdaocdfkgeaaGreatDoorBQ01
import Derived.Test.YtddjdaocdfkgeaaGreatDoorBQ06
set_option maxRecDepth 100000
set_option maxHeartbeats 4000000
namespace Go.Proofs.YtddjdaocdfkgeaaGreatDoor
namespace Sha
open Go.RowKit Mem
theorem prest_any (b:Lb8) (e:Nat) (br:Nat) (w:World) (hr:RPk w br b e) (hb:b.length≤8000) :
 Calls Tryz.prog 100 #[rp br] w fun o w'=>o=.returned (.int .i64 ((rdRest b e:Nat):Int))∧PkEnd RPk w br b (rdRest b e) w':=by
 have hpe:=fun e wx h=>perr0_any b e br wx h
 by_cases he:e=0
 ·subst he
  have hfa:=fun wx h=>fail_any b 0 3 br wx h (by decide)
  have hr0:=hr
  obtain ⟨a,cap,hat,hsl⟩:=hr.h
  rw [lv_zero] at hat hsl
  have haz:=areZeros_any b (.slice a b.length cap) w (by omega) hsl
  obtain ⟨m,hm⟩:∃ m,m=b.length:=⟨_,rfl⟩
  rw [←hm] at hat haz
  have c0:w.cell? ⟨br,0,none⟩=some (.slice a m cap):=by rw [hat.cell];rfl
  have PE:=zh hpe;have FA:=zh hfa;have HR:=zh hr0
  clear hpe hfa hr hr0 hat hsl hm
  cases hz:allZ b with
  | false=>
   have h1:rdRest b 0=3:=by rw [rdRest,if_pos ⟨rfl,hz⟩]
   rw [h1]
   rw [hz] at haz
   have AZ:=zh haz
   clear h1 haz hz
   go_enter Tryz.func100,Tryz.ntmps100
   go_wp2_with fail
   refine (PE.out 0 w HR.out).mono ?_
   rintro o w' ⟨rfl,rfl⟩
   go_wp2_with fail
   refine AZ.out.mono ?_
   rintro o w' ⟨rfl,rfl⟩
   go_wp2_with fail
   refine (FA.out w HR.out).mono ?_
   rintro o w2 ⟨rfl,hp⟩
   have HP:=zh (hp b)
   clear hp
   go_wp2_with fail
   refine (PE.out 3 w2 HP.out.r).mono ?_
   rintro o w' ⟨rfl,rfl⟩
   go_wp2_with fail
   go_ret
   exact ⟨rfl,HP.out⟩
  | true=>
   have h1:rdRest b 0=0:=by rw [rdRest,if_neg (by rw [hz];simp)]
   rw [h1]
   rw [hz] at haz
   have AZ:=zh haz
   clear h1 haz hz
   go_enter Tryz.func100,Tryz.ntmps100
   go_wp2_with fail
   refine (PE.out 0 w HR.out).mono ?_
   rintro o w' ⟨rfl,rfl⟩
   go_wp2_with fail
   refine AZ.out.mono ?_
   rintro o w' ⟨rfl,rfl⟩
   go_wp2_with fail
   refine (PE.out 0 _ HR.out).mono ?_
   rintro o w' ⟨rfl,rfl⟩
   go_wp2_with fail
   go_ret
   exact ⟨rfl,rpk_same HR.out⟩
 ·have h1:rdRest b e=e:=by rw [rdRest,if_neg (by simp [he])]
  have g1:¬ (e:Int)=0:=by omega
  rw [h1]
  have PE:=zh hpe;have HR:=zh hr
  clear hpe hr he h1
  go_enter Tryz.func100,Tryz.ntmps100
  go_wp2_with fail
  refine (PE.out e w HR.out).mono ?_
  rintro o w' ⟨rfl,rfl⟩
  go_wp2_with fail
  refine (PE.out e _ HR.out).mono ?_
  rintro o w' ⟨rfl,rfl⟩
  go_wp2_with fail
  go_ret
  exact ⟨rfl,rpk_same HR.out⟩
theorem rdNum_le (b:Lb8) (e k most:Nat):(rdNum b e k most).1≤most:=by
 unfold rdNum
 split
 ·exact Nat.zero_le _
 ·split
  ·exact Nat.zero_le _
  ·omega
theorem rdNum_len (b:Lb8) (e k most:Nat):(rdNum b e k most).2.1.length≤b.length:=by
 have h:=(rdTake_small b e k).2.2.1
 unfold rdNum
 split
 ·exact h
 ·split
  ·exact h
  ·exact h
theorem rdTake_x (b:Lb8) (e n:Nat):(rdTake b e n).x=[]∨(rdTake b e n).x.length=n:=by
 by_cases h:(rdTake b e n).e=0
 ·exact .inr (rdTake_len b e n h).1
 ·exact .inl (rdTake_err b e n h).1
theorem take_mid {α:Type} (p r:List α) (n:Nat) (hp:p.length=n):(p++r).take n=p:=by rw [←hp,List.take_left]
theorem rdNum_bad (b:Lb8) (e k most:Nat) (h:e≠0):rdNum b e k most=(0,b,e):=by
 have h2:rdTake b e k=⟨[],b,e⟩:=by unfold rdTake;rw [if_pos h]
 unfold rdNum
 rw [h2,if_pos h]
theorem rdNum_ok (b:Lb8) (k most:Nat) (hk:k≤b.length):rdNum b 0 k most=if most < leN (b.take k) then (0,b.drop k,3) else (leN (b.take k),b.drop k,0):=by
 have h2:rdTake b 0 k=⟨b.take k,b.drop k,0⟩:=by unfold rdTake;rw [if_neg (by simp),if_neg (by omega)]
 unfold rdNum
 rw [h2,if_neg (by simp)]
theorem rdTake_bad (b:Lb8) (e n:Nat) (h:e≠0):rdTake b e n=⟨[],b,e⟩:=by unfold rdTake;rw [if_pos h]
theorem rdTake_ok (b:Lb8) (n:Nat) (hn:n≤b.length):rdTake b 0 n=⟨b.take n,b.drop n,0⟩:=by unfold rdTake;rw [if_neg (by simp),if_neg (by omega)]
end Sha
end Go.Proofs.YtddjdaocdfkgeaaGreatDoor
namespace Go.Proofs.YtddjdaocdfkgeaaGreatDoor
namespace Sha
open Go.RowKit Mem
def padR (x:Lb8):Lb8:=if x=[] then List.replicate 32 0 else x
theorem padR_len (x:Lb8) (h:x=[]∨x.length=32):(padR x).length=32:=by
 unfold padR
 split
 ·rfl
 ·rcases h with h | h
  ·rename_i h2;exact absurd h h2
  ·exact h
theorem pref_set0 (r:RefV) (z:Int):(refC r).setIfInBounds 0 (.int .i64 z)=refC { r with pl:=z }:=by simp [refC,refL]
theorem pref_set1 (r:RefV) (n:Nat) (hn:n≤4294967295):(refC r).setIfInBounds 1 (.int .u32 (n:Int))=refC { r with ep:=BitVec.ofNat 32 n }:=by
 have e:V (BitVec.ofNat 32 n)=(n:Int):=by
  show ((BitVec.ofNat 32 n).toNat:Int)=_
  rw [BitVec.toNat_ofNat];omega
 simp [refC,refL,e]
theorem pref_copy (r:RefV) (x:Lb8) (h:r.dg=List.replicate 32 0):(if x=[] then refC r else ((refC r).toList.take 2++u8s x++(refC r).toList.drop (2+32)).toArray)=refC { r with dg:=padR x }:=by
 unfold padR
 split
 ·rw [←h]
 ·have e:(u8s r.dg).length=32:=by rw [u8s_length,h];rfl
  unfold refC refL
  congr 1
  rw [take_mid _ _ 2 rfl,List.drop_eq_nil_of_le (by rw [List.length_append,e];exact Nat.le_refl _),List.append_nil]
theorem leN_lew (b:Lb8) (h:4≤b.length):leN (b.take 4)=(lew b 0).toNat:=by
 match b,h with
 | x0::x1::x2::x3::t,_=>
  have e:=nb4_le4 (lew (x0::x1::x2::x3::t) 0)
  rw [le4_lew] at e
  obtain ⟨n,hn⟩:∃ n,n=(lew (x0::x1::x2::x3::t) 0).toNat:=⟨_,rfl⟩
  have hlt:=(lew (x0::x1::x2::x3::t) 0).isLt
  rw [←hn] at e hlt ⊢
  show leN [x0,x1,x2,x3]=n
  rw [←e]
  simp only [nbytes,List.range_succ,List.range_zero,List.nil_append,List.map_cons,List.map_nil,List.cons_append,leN,nbyte,BitVec.toNat_ofNat]
  omega
theorem parse_spec (b:Lb8) (h:b.length=37) (n1 n2 e1 e2:Nat) (b1 b2:Lb8) (r3:Rd3) (h1:(n1,b1,e1)=rdNum b 0 1 1) (h2:(n2,b2,e2)=rdNum b1 e1 4 4294967295) (h3:r3=rdTake b2 e2 32) :
 (r3.e=0∧parseRf b=(⟨(n1:Int),BitVec.ofNat 32 n2,padR r3.x⟩,0))∨(r3.e=3∧parseRf b=(zref,1)):=by
 match b,h with
 | x0::t,h=>
  have ht:t.length=36:=by simpa using h
  rw [rdNum_ok _ 1 1 (by simp)] at h1
  have e1':leN ((x0::t).take 1)=x0.toNat:=by simp [leN]
  rw [e1'] at h1
  by_cases hx:1 < x0.toNat
  ·rw [if_pos hx] at h1
   have ha:b1=t:=congrArg (fun p:Nat × Lb8 × Nat=>p.2.1) h1
   have hb:e1=3:=congrArg (fun p:Nat × Lb8 × Nat=>p.2.2) h1
   rw [hb,rdNum_bad _ 3 4 _ (by decide)] at h2
   have hd:e2=3:=congrArg (fun p:Nat × Lb8 × Nat=>p.2.2) h2
   rw [hd,rdTake_bad _ 3 32 (by decide)] at h3
   exact .inr ⟨by rw [h3],by unfold parseRf;rw [if_pos (.inr (by simpa using hx))]⟩
  ·rw [if_neg hx] at h1
   have h0:n1=x0.toNat:=congrArg (fun p:Nat × Lb8 × Nat=>p.1) h1
   have ha:b1=t:=congrArg (fun p:Nat × Lb8 × Nat=>p.2.1) h1
   have hb:e1=0:=congrArg (fun p:Nat × Lb8 × Nat=>p.2.2) h1
   rw [hb,ha,rdNum_ok _ 4 4294967295 (by omega),leN_lew t (by omega),if_neg (by have:=(lew t 0).isLt;omega)] at h2
   have k0:n2=(lew t 0).toNat:=congrArg (fun p:Nat × Lb8 × Nat=>p.1) h2
   have ka:b2=t.drop 4:=congrArg (fun p:Nat × Lb8 × Nat=>p.2.1) h2
   have kb:e2=0:=congrArg (fun p:Nat × Lb8 × Nat=>p.2.2) h2
   rw [kb,ka,rdTake_ok _ 32 (by rw [List.length_drop];omega)] at h3
   rw [h3]
   refine .inl ⟨rfl,?_⟩
   unfold parseRf
   rw [if_neg (by simp only [List.getD_cons_zero,h];omega)]
   unfold rfOf padR
   have e5:(t.drop 4).take 32=t.drop 4:=List.take_of_length_le (by rw [List.length_drop];omega)
   simp only
   rw [e5,if_neg (fun e=>by have:=congrArg List.length e;rw [List.length_drop,ht,List.length_nil] at this;omega)]
   have e6:BitVec.ofNat 32 (lew t 0).toNat=lew t 0:=by simp
   rw [h0,k0,e6]
   rfl
structure PInv9 (w:World) (br bx:Nat) (Z C:Array Value) (b:Lb8) (e:Nat) (W:World):Prop where
 r:RPk W br b e
 ar:At W w.heap.size Z 32
 ag:At W bx C 32
 l:Below w.heap.size w W
section
variable {w W W':World} {br bx:Nat} {Z C C':Array Value} {b b':Lb8} {e e':Nat}
theorem PInv9.call (h:PInv9 w br bx Z C b e W) (h1:w.heap.size < br) (h2:br < bx) (hp:PkEnd RPk W br b' e' W'):PInv9 w br bx Z C b' e' W':=
 ⟨hp.r,h.ar.but hp.o (by omega),h.ag.but hp.o (by omega),hp.k _ _ h.l (by omega)⟩
theorem PInv9.store (h:PInv9 w br bx Z C b e W) (h1:w.heap.size < br) (h2:br < bx) (ha:At W' bx C' 32) (ho:∀ k,k≠bx→W'.heap[k]?=W.heap[k]?) (hk:∀ B x,Below B x W→B≤bx→Below B x W'):PInv9 w br bx Z C' b e W':=by
 have hs:W.heap.size≤W'.heap.size:=(hk _ _ (Below.refl bx W) (Nat.le_refl _)).size
 have hb:But bx W W':=⟨hs,fun k _ hne=>ho k hne⟩
 exact ⟨h.r.above hb h2,h.ar.but hb (by omega),ha,hk _ _ h.l (by omega)⟩
theorem PInv9.drew (h:PInv9 w br bx Z C b e W):PInv9 w br bx Z C b e W.drew:=
 ⟨h.r.below (Below.refl _ _).drew,h.ar.below (Below.refl _ _).drew h.ar.lt,h.ag.below (Below.refl _ _).drew h.ag.lt,h.l.drew⟩
end
theorem conv_ui9 (x:Nat) (_h:x < 65536) (w:World):(convert 126 3 (.int .u64 (x:Int))).run Tryz.prog w=.ok (.int .i64 (x:Int)) w:=by
 have h2:IntKind.i64.wrap (x:Int)=(x:Int):=by simp [IntKind.wrap,IntKind.bits,IntKind.signed];omega
 go_simp
theorem conv_u329 (x:Nat) (_h:x < 4294967296) (w:World):(convert 126 30 (.int .u64 (x:Int))).run Tryz.prog w=.ok (.int .u32 (x:Int)) w:=by
 have h2:IntKind.u32.wrap (x:Int)=(x:Int):=by rw [IntKind.wrap_u32];omega
 go_simp
theorem pparse9_any (b:Lb8) (v:Value) (w:World) (hv:Sl w v b) (_hb:b.length≤1000) :
 Calls Tryz.prog 98 #[v] w fun e w'=>e=.returned (.tuple #[.agg (refC (parseRf b).1),.int .i64 (parseRf b).2])∧Below w.heap.size w w':=by
 obtain ⟨Z,hZ⟩:∃ Z,Z=refC zref:=⟨_,rfl⟩
 have zs:Z.size=34:=by rw [hZ];exact refC_size zref_wf
 have zo:Z.all (·.oneCell')=true:=by rw [hZ];exact refC_one _
 have hx:∀ w,(zeroValue 32).run Tryz.prog w=.ok (.agg Z) w:=by rw [hZ];exact zeroRfP
 have bn:∀ w,(Instr.build 32 #[]).run Tryz.prog w=.ok (.agg Z) w:=by rw [hZ];exact buildPf0
 have az:=at_new w Z 32
 have bz:Below w.heap.size w (w.alloc (.cells Z 32)):=(Below.refl _ _).alloc (Nat.le_refl _) _
 have hv1:=hv.below bz
 by_cases h37:b.length=37
 ·have hrd:=fun wx h=>read_any b v wx h (by omega)
  obtain ⟨r1,hr1⟩:∃ r,r=rdNum b 0 1 1:=⟨_,rfl⟩
  have lt1:r1.1≤1:=by rw [hr1];exact rdNum_le _ _ _ _
  have ll1:r1.2.1.length≤8000:=by rw [hr1];exact Nat.le_trans (rdNum_len _ _ _ _) (by omega)
  have nu1:∀ br wx,RPk wx br b 0→Calls Tryz.prog 97 #[rp br,.int .i64 1,.int .u64 1] wx fun o w'=>o=.returned (.int .u64 ((r1.1:Nat):Int))∧PkEnd RPk wx br r1.2.1 r1.2.2 w':=fun br wx h=>by rw [hr1];exact pnumget_any b 0 1 1 br wx h (by omega) (by omega)
  obtain ⟨n1,b1,e1⟩:=r1
  simp only at lt1 ll1 nu1
  obtain ⟨r2,hr2⟩:∃ r,r=rdNum b1 e1 4 4294967295:=⟨_,rfl⟩
  have lt2:r2.1≤4294967295:=by rw [hr2];exact rdNum_le _ _ _ _
  have ll2:r2.2.1.length≤8000:=by rw [hr2];exact Nat.le_trans (rdNum_len _ _ _ _) ll1
  have nu2:∀ br wx,RPk wx br b1 e1→Calls Tryz.prog 97 #[rp br,.int .i64 4,.int .u64 4294967295] wx fun o w'=>o=.returned (.int .u64 ((r2.1:Nat):Int))∧PkEnd RPk wx br r2.2.1 r2.2.2 w':=fun br wx h=>by rw [hr2];exact pnumget_any b1 e1 4 4294967295 br wx h ll1 (by omega)
  obtain ⟨n2,b2,e2⟩:=r2
  simp only at lt2 ll2 nu2
  obtain ⟨r3,hr3⟩:∃ r,r=rdTake b2 e2 32:=⟨_,rfl⟩
  have lt3:r3.x=[]∨r3.x.length=32:=by rw [hr3];exact rdTake_x _ _ _
  have nu3:∀ br wx,RPk wx br b2 e2→Calls Tryz.prog 99 #[rp br,.int .i64 32] wx fun o w'=>∃ v,o=.returned v∧Sl w' v r3.x∧PkEnd RPk wx br r3.b r3.e w':=fun br wx h=>by rw [hr3];exact pbytes_any b2 e2 32 br wx h ll2 (by decide) (by decide)
  have hsp:=parse_spec b h37 n1 n2 e1 e2 b1 b2 r3 hr1 hr2 hr3
  obtain ⟨C1,hC1⟩:∃ C,C=refC ⟨(n1:Int),0,List.replicate 32 0⟩:=⟨_,rfl⟩
  obtain ⟨C2,hC2⟩:∃ C,C=refC ⟨(n1:Int),BitVec.ofNat 32 n2,List.replicate 32 0⟩:=⟨_,rfl⟩
  obtain ⟨C3,hC3⟩:∃ C,C=refC ⟨(n1:Int),BitVec.ofNat 32 n2,padR r3.x⟩:=⟨_,rfl⟩
  have q1:Z.setIfInBounds 0 (.int .i64 (n1:Int))=C1:=by rw [hZ,hC1];exact pref_set0 zref _
  have q2:C1.setIfInBounds 1 (.int .u32 (n2:Int))=C2:=by rw [hC1,hC2];exact pref_set1 _ n2 lt2
  have q3:(if r3.x=[] then C2 else (C2.toList.take 2++u8s r3.x++C2.toList.drop (2+32)).toArray)=C3:=by rw [hC2,hC3];exact pref_copy _ r3.x rfl
  have s1:C1.size=34:=by rw [hC1];exact refC_size ⟨by show _≤(n1:Int);omega,by show (n1:Int)≤_;omega,by simp⟩
  have s2:C2.size=34:=by rw [hC2];exact refC_size ⟨by show _≤(n1:Int);omega,by show (n1:Int)≤_;omega,by simp⟩
  have s3:C3.size=34:=by rw [hC3];exact refC_size ⟨by show _≤(n1:Int);omega,by show (n1:Int)≤_;omega,padR_len _ lt3⟩
  have o3:C3.all (·.oneCell')=true:=by rw [hC3];exact refC_one _
  obtain ⟨x3,b3,e3⟩:=r3
  simp only at lt3 nu3 q3 hsp
  obtain ⟨a0,c0,rfl⟩:=sl_inv hv
  rw [h37] at hv1 hrd ⊢
  have hsp2:(e3=0∧refC (parseRf b).1=C3∧(parseRf b).2=0)∨(e3=3∧refC (parseRf b).1=Z∧(parseRf b).2=1):=by
   rcases hsp with ⟨h1,h2⟩ | ⟨h1,h2⟩
   ·exact .inl ⟨h1,by rw [h2,hC3],by rw [h2]⟩
   ·exact .inr ⟨h1,by rw [h2,hZ],by rw [h2]⟩
  obtain ⟨PR,hPR⟩:∃ PR,PR=parseRf b:=⟨_,rfl⟩
  rw [←hPR] at hsp2 ⊢
  have SP:=zh hsp2;have ZS:=zh zs;have ZO:=zh zo;have BN:=zh bn;have AZ:=zh az;have BZ:=zh bz;have HV:=zh hv1;have RD:=zh hrd;have NU1:=zh nu1;have NU2:=zh nu2;have NU3:=zh nu3;have LT3:=zh lt3;have Q1:=zh q1;have Q2:=zh q2;have Q3:=zh q3;have S1:=zh s1;have S2:=zh s2;have S3:=zh s3;have O3:=zh o3
  clear hsp hsp2 zs zo bn az bz hv1 hv hrd nu1 nu2 nu3 lt3 q1 q2 q3 s1 s2 s3 o3 hC1 hC2 hC3 hZ hr1 hr2 hr3 ll1 ll2 _hb h37 hPR
  have pe:=fun br wx (h:RPk wx br b3 e3)=>perr0_any b3 e3 br wx h
  have PE:=zh pe
  clear pe
  go_enter Tryz.func98,Tryz.ntmps98
  go_wp2_with fail
  refine (RD.out _ HV.out).mono ?_
  rintro e w2 ⟨br,rfl,hbr,hr2,hb2⟩
  have hbr1:w.heap.size < br:=by have h:=hbr;simp at h;omega
  have hbx:br < w2.heap.size:=hr2.lt
  have I0:Hid (PInv9 w br w2.heap.size Z Z b 0 (w2.alloc (.cells Z 32))):=zh ⟨hr2.below ((Below.refl _ _).alloc (Nat.le_refl _) _),(AZ.out.below hb2 AZ.out.lt).alloc _,at_new w2 Z _,(BZ.out.trans (hb2.mono BZ.out.size)).alloc (Nat.le_trans BZ.out.size hb2.size) _⟩
  have HB1:=zh hbr1;have HB2:=zh hbx
  clear hbr hr2 hb2 RD HV AZ BZ hbr1 hbx
  go_wp2_with fail
  clear hx
  refine (NU1.out br _ I0.out.r).mono ?_
  rintro e w3 ⟨rfl,hp⟩
  have J1:=zh (I0.out.call HB1.out HB2.out hp)
  clear hp I0
  go_wp2_with (first
   | (refine wpList_conv zr _ _ _ _ (.int .i64 (n1:Int)) zr zr (fun wx=>conv_ui9 n1 (by omega) wx) ?_)
   | (refine Mem.wpList_store_one zr 3 _ _ zr zr w2.heap.size 0 (.int .i64 (n1:Int)) zr zr zr (by kernel_rfl) Z 32 J1.out.ag (by rw [ZS.out];decide) ?_;intro w4 ha ho hk;rw [Q1.out] at ha;have I1:=zh (J1.out.store HB1.out HB2.out ha ho hk);clear ha ho hk))
  refine (NU2.out br _ I1.out.r).mono ?_
  rintro e w5 ⟨rfl,hp⟩
  have J2:=zh (I1.out.call HB1.out HB2.out hp)
  clear hp I1 J1
  go_wp2_with (first
   | (refine wpList_conv zr _ _ _ _ (.int .u32 (n2:Int)) zr zr (fun wx=>conv_u329 n2 (by omega) wx) ?_)
   | (refine Mem.wpList_store_one zr 30 _ _ zr zr w2.heap.size 1 (.int .u32 (n2:Int)) zr zr zr (by kernel_rfl) C1 32 J2.out.ag (by rw [S1.out];decide) ?_;intro w6 ha ho hk;rw [Q2.out] at ha;have I2:=zh (J2.out.store HB1.out HB2.out ha ho hk);clear ha ho hk))
  refine wp_region_plan_in (fun _=>True) (.take 0 (.take 1 (.take 2 (.sole 3 (.sole 4 .done))))) (by kernel_rfl) (by kernel_rfl) (by kernel_rfl) trivial ?_
  refine plan_field 32 _ 2 w2.heap.size 0 ⟨w2.heap.size,2,none⟩ (by rfl) (by rfl) (by rfl) ze (fun wx=>by go_simp) ?_
  (simp only [Mem.zp,Mem.pb,Mem.pc])
  refine plan_cut 26 _ 32 5 w2.heap.size 2 (by rfl) (by rfl) (by rfl) ze Tryz.underlying26 infoB ?_
  (simp only [Mem.zp,Mem.pb,Mem.pc])
  (first | refine Mem.pm1 ?_ | refine Mem.pm2 ?_ | refine Mem.pt ?_ | refine Mem.pf ?_)
  (simp only [Mem.zp,Mem.pb,Mem.pc])
  refine plan_call 99 _ _ _ (by kernel_rfl) (by rfl) (by rfl) (by rfl) (by first | exact Mem.ev_none _ | (simp only [List.map_toArray,List.map_cons,List.map_nil,Mem.ev_tmp,List.getD_cons_succ,List.getD_cons_zero] <;> rfl)) ?_
  refine (NU3.out br _ I2.out.drew.r).mono ?_
  rintro e w7 ⟨vx,rfl,hsx,hp⟩
  have J3:=zh (I2.out.drew.call HB1.out HB2.out hp);have SX:=zh hsx
  clear hp hsx I2 J2
  refine ⟨_,rfl,trivial,?_⟩
  (simp only [Mem.zp,Mem.pb,Mem.pc])
  refine plan_copy_row _ _ (by rfl) (by rfl) (by rfl) w2.heap.size 2 C2 32 _ x3 ze ze SX.out LT3.out J3.out.ag (by rw [S2.out];decide) C3 Q3.out ?_
  intro nv w8 ha ho hk
  have I3:=zh (J3.out.store HB1.out HB2.out ha ho hk)
  clear ha ho hk SX J3
  refine ⟨trivial,?_⟩
  (simp only [Mem.zp,Mem.pb,Mem.pc])
  refine plan_nil ?_
  go_wp2_with fail
  refine (PE.out br _ I3.out.r).mono ?_
  rintro e w9 ⟨rfl,rfl⟩
  rcases SP.out with ⟨he,h1,h2⟩ | ⟨he,h1,h2⟩
  ·subst he
   go_wp2_with (first
    | (refine wpList_load_all zr 32 _ zr w2.heap.size zr _ Tryz.underlying32 zr C3 _ I3.out.ag (by rw [S3.out];exact infoRfP) ?_)
    | (refine wpList_store_all zr 32 _ _ zr zr w.heap.size C3 zr zr (by rw [S3.out];exact infoRfP) Z 32 I3.out.ar (by rw [S3.out,ZS.out]) O3.out ?_))
   try simp only [Exit.inBlock,Exit.then]
   refine ret_row_tmp zr w.heap.size 32 C3 _ (.int .i64 0) zr zr (I3.out.ar.row C3) Tryz.underlying32 zr (by rw [S3.out];exact infoRfP) ?_
   exact ⟨by rw [h1,h2],below_row I3.out.l (Nat.le_refl _) C3⟩
  ·subst he
   go_wp2_with (first
    | (refine Mem.wpList_build zr 32 _ #[] (.agg Z) zr (by simp) BN.out ?_)
    | (refine wpList_store_all zr 32 _ _ zr zr w.heap.size Z zr zr (by rw [ZS.out];exact infoRfP) Z 32 I3.out.ar zr ZO.out ?_))
   try simp only [Exit.inBlock,Exit.then]
   refine ret_row_tmp zr w.heap.size 32 Z _ (.int .i64 1) zr zr (I3.out.ar.row Z) Tryz.underlying32 zr (by rw [ZS.out];exact infoRfP) ?_
   exact ⟨by rw [h1,h2],below_row I3.out.l (Nat.le_refl _) Z⟩
 ·have e0:parseRf b=(zref,1):=by unfold parseRf;rw [if_pos (.inl h37)]
  rw [e0]
  obtain ⟨a0,c0,rfl⟩:=sl_inv hv
  obtain ⟨n,hn⟩:∃ n,n=b.length:=⟨_,rfl⟩
  rw [←hn] at h37 hv1 ⊢
  have h37':¬ (n:Int)=37:=by omega
  simp only
  rw [←hZ]
  have ZS:=zh zs;have ZO:=zh zo;have BN:=zh bn;have AZ:=zh az;have BZ:=zh bz
  clear hv hv1 zs zo bn az bz hZ hn e0 _hb h37
  go_enter Tryz.func98,Tryz.ntmps98
  go_upto_region 1 with fail
  clear hx
  generalize w.alloc (.cells Z 32)=w1 at *
  go_wp2_with (first
   | (refine Mem.wpList_build zr 32 _ #[] (.agg Z) zr (by simp) BN.out ?_)
   | (refine wpList_store_all zr 32 _ _ zr zr w.heap.size Z zr zr (by rw [ZS.out];exact infoRfP) Z 32 AZ.out zr ZO.out ?_))
  try simp only [Exit.inBlock,Exit.then]
  refine ret_row_tmp zr w.heap.size 32 Z _ (.int .i64 1) zr zr (AZ.out.row Z) Tryz.underlying32 zr (by rw [ZS.out];exact infoRfP) ?_
  exact ⟨rfl,below_row BZ.out (Nat.le_refl _) Z⟩
end Sha
end Go.Proofs.YtddjdaocdfkgeaaGreatDoor
