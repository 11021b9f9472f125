/- My own texts, merged. -/
import Derived.Test.YtlhnegbjoncieaaGreatDoorBL10
import Derived.Test.YtlhnegbjoncieaaGreatDoorBL07
import Derived.BigQuiet
import Derived.Test.YtlhnegbjoncieaaGreatDoorBL15
import Derived.Laws.CopyRow
import Derived.Laws.IdiomCopy
set_option maxRecDepth 100000
set_option maxHeartbeats 1000000
namespace Go.Proofs.YtlhnegbjoncieaaGreatDoor
namespace Sha
open Go.RowKit Mem
def lv (b:Lb8) (e:Nat):Lb8:=if e=0 then b else []
theorem lv_zero (b:Lb8):lv b 0=b:=rfl
theorem lv_err (b:Lb8) (e:Nat) (h:e≠0):lv b e=[]:=if_neg h
def LB (br:Nat) (a:Option Addr) (l:Lb8):Prop:=l≠[]→∀ p,a=some p→p.block < br
theorem lb_piece {br:Nat} {a:Option Addr} {l:Lb8} (h:LB br a l) (cap n:Nat):LB br (pieceA a cap n) (l.drop n):=by
 intro hne p hp
 have hl:l≠[]:=fun e=>hne (by rw [e];simp)
 unfold pieceA at hp
 split at hp
 ·exact h hl p hp
 ·cases a with
  | none=>simp at hp
  | some q=>
   have h2:=h hl q rfl
   have e:q.add n=p:=by simpa using hp
   rw [←e]
   have e3:(q.add n).block=q.block:=by unfold Addr.add;split <;> rfl
   rw [e3];exact h2
structure RPk (w:World) (br:Nat) (b:Lb8) (e:Nat):Prop where
 h3:∃ a cap,At w br (rdRow (.slice a (lv b e).length cap) e) 270∧Sl w (.slice a (lv b e).length cap) (lv b e)∧LB br a (lv b e)
theorem RPk.h {w:World} {br:Nat} {b:Lb8} {e:Nat} (h:RPk w br b e):∃ a cap,At w br (rdRow (.slice a (lv b e).length cap) e) 270∧Sl w (.slice a (lv b e).length cap) (lv b e):=by
 obtain ⟨a,cap,h1,h2,_⟩:=h.h3
 exact ⟨a,cap,h1,h2⟩
theorem RPk.lb {w:World} {br m cap:Nat} {b:Lb8} {a:Option Addr} {e:Nat} (h:RPk w br b e) (hat:At w br (rdRow (.slice a m cap) e) 270):LB br a (lv b e):=by
 obtain ⟨a',cap',h1,_,h2⟩:=h.h3
 unfold At at hat h1
 rw [hat] at h1
 injection h1 with h1
 injection h1 with h1 _ _
 unfold rdRow at h1
 have h3:(Value.slice a m cap)=.slice a' (lv b e).length cap':=by
  have:=congrArg (fun x:Array Value=>x[0]?) h1
  simpa using this
 injection h3 with h3 _ _
 rw [h3];exact h2
theorem RPk.below {w w':World} {br:Nat} {b:Lb8} {e:Nat} (h:RPk w br b e) (hb:Below w.heap.size w w'):RPk w' br b e:=by
 obtain ⟨a,cap,h1,h2,h3⟩:=h.h3
 exact ⟨a,cap,h1.below hb h1.lt,h2.below hb,h3⟩
theorem RPk.but {w w':World} {br bx:Nat} {b:Lb8} {e:Nat} {C:Array Value} {t:TypeId} (h:RPk w br b e) (hC:At w bx C t) (hno:∀ (k:Nat) (x:Int),C[k]?≠some (.int .u8 x)) (hne:br≠bx) (hb:But bx w w'):RPk w' br b e:=by
 obtain ⟨a,cap,h1,h2,h3⟩:=h.h3
 exact ⟨a,cap,h1.but hb hne,h2.but_at hC hno hb,h3⟩
theorem RPk.above {w w':World} {br bx:Nat} {b:Lb8} {e:Nat} (h:RPk w br b e) (hb:But bx w w') (hne:br < bx):RPk w' br b e:=by
 obtain ⟨a,cap,h1,h2,h3⟩:=h.h3
 refine ⟨a,cap,h1.but hb (by omega),?_,h3⟩
 obtain ⟨a2,cap2,e2,hc,hr⟩:=h2
 injection e2 with e2 _ e4
 subst e2;subst e4
 refine ⟨a,cap,rfl,hc,fun hl=>?_⟩
 obtain ⟨bb,oo,ea,hlt,hcell⟩:=hr hl
 have hlt2:=h3 hl _ ea
 refine ⟨bb,oo,ea,Nat.lt_of_lt_of_le hlt hb.size,fun i hi=>?_⟩
 rw [World.cell?_of_block (w:=w) (w':=w') (a:=⟨bb,oo+i,none⟩) (hb.block bb hlt (by simp only at hlt2;omega))]
 exact hcell i hi
theorem RPk.keep {w w':World} {br:Nat} {b l:Lb8} {e:Nat} {v:Value} (h:RPk w br b e) (hb:But br w w') (hs:Sl w v l):Sl w' v l:=by
 obtain ⟨a,cap,h1,_⟩:=h.h
 exact hs.but_at h1 (rdRow_no _ _ _ _) hb
theorem RPk.lt {w:World} {br:Nat} {b:Lb8} {e:Nat} (h:RPk w br b e):br < w.heap.size:=by
 obtain ⟨a,cap,h1,_⟩:=h.h
 exact h1.lt
theorem rpk_same {w:World} {br:Nat} {b:Lb8} {e:Nat} (h:RPk w br b e):PkEnd RPk w br b e w:=⟨h,But.refl _ _,fun _ _ h _=>h⟩
theorem rpk_left {w:World} {br:Nat} {b b':Lb8} (h:RPk w br b 0) (a':Option Addr) (n' cap':Nat) (hn:n'=b'.length) (hs:Sl w (.slice a' n' cap') b') (hlb:LB br a' b'):PkEnd RPk w br b' 0 (w.setCell ⟨br,0,none⟩ (.slice a' n' cap')):=by
 subst hn
 obtain ⟨a,cap,h1,h2⟩:=h.h
 have hb:But br w (w.setCell ⟨br,0,none⟩ (.slice a' b'.length cap')):=(But.refl br w).row (by simp) (fun k hk=>heap_setCell_other w ⟨br,0,none⟩ k _ hk)
 exact ⟨⟨a',cap',h1.set 0 _,hs.but_at h1 (rdRow_no _ _ _ _) hb,hlb⟩,hb,fun B x hB hle=>hB.setCell hle _⟩
theorem rpk_below {w w':World} {br:Nat} {b:Lb8} {e:Nat} (h:RPk w br b e) (hb:Below w.heap.size w w'):PkEnd RPk w br b e w':=
 ⟨h.below hb,⟨hb.size,fun k hk _=>hb.block k hk⟩,fun _ _ h2 hle=>h2.trans (hb.mono (Nat.le_of_lt (Nat.lt_of_le_of_lt hle h.lt)))⟩
theorem infoSl:(Tryz.prog.info? 31).map (·.size)=some 1:=by kernel_rfl
theorem infoErr:(Tryz.prog.info? 42).map (·.size)=some 1:=by kernel_rfl
theorem fail_any (b:Lb8) (e e' br:Nat) (w:World) (hr:RPk w br b e) (he:e'≠0) :
 Calls Tryz.prog 185 #[rp br,.int .i64 (e':Int)] w fun o w'=>o=.returned (.tuple #[])∧∀ b',PkEnd RPk w br b' e' w':=by
 obtain ⟨a,cap,hat,hsl⟩:=hr.h
 obtain ⟨X,hX⟩:∃ X,X=Value.slice a (lv b e).length cap:=⟨_,rfl⟩
 have hno:=rdRow_no a (lv b e).length cap e
 rw [←hX] at hat hno
 have A0:=zh hat;have H0:=zh hat;have NO:=zh hno
 clear hr hat hsl hX hno
 go_enter Tryz.func185,Tryz.ntmps185
 go_wp2_with (first
  | (refine Mem.wpList_store_one zr 31 _ _ zr zr br 0 (.slice none 0 0) zr zr zr infoSl _ 270 A0.out (by simp [rdRow]) ?_;intro w1 ha1 ho1 hk1;have A1:=zh ha1;have O1:=zh ho1;have K1:=zh hk1;clear ha1 ho1 hk1 A0)
  | (refine Mem.wpList_store_one zr 42 _ _ zr zr br 1 (.int .i64 (e':Int)) zr zr zr infoErr _ 270 A1.out (by simp [rdRow]) ?_;intro w2 ha2 ho2 hk2;have A2:=zh ha2;have O2:=zh ho2;have K2:=zh hk2;clear ha2 ho2 hk2 A1))
 go_end0
 have k2:∀ B x,Below B x w→B≤br→Below B x w2:=fun B x h hle=>K2.out B x (K1.out B x h hle) hle
 have bu:But br w w2:=⟨(k2 br w (Below.refl _ _) (Nat.le_refl _)).size,fun k _ hne=>(O2.out k hne).trans (O1.out k hne)⟩
 refine ⟨rfl,fun b'=>⟨⟨none,0,?_,?_,fun _ p hp=>by cases hp⟩,bu,k2⟩⟩
 ·rw [lv_err b' e' he]
  exact A2.out
 ·rw [lv_err b' e' he]
  exact sl_none _
theorem perr0_any (b:Lb8) (e:Nat) (br:Nat) (w:World) (hr:RPk w br b e):Calls Tryz.prog 186 #[rp br] w fun o w'=>o=.returned (.int .i64 (e:Int))∧w=w':=by
 obtain ⟨a,cap,hat,_⟩:=hr.h
 have c1:w.cell? ⟨br,1,none⟩=some (.int .i64 (e:Int)):=by rw [hat.cell];rfl
 clear hr hat
 go_enter Tryz.func186,Tryz.ntmps186
 go_wp2
 go_ret
 exact ⟨rfl,rfl⟩
theorem read_any (b:Lb8) (v:Value) (w:World) (hv:Sl w v b) (hb:b.length≤8000):Calls Tryz.prog 163 #[v] w fun o w'=>∃ br,o=.returned (rp br)∧w.heap.size≤br∧RPk w' br b 0∧Below w.heap.size w w':=by
 have hcl:=clone_any b v w (by omega) hv
 obtain ⟨a0,cap,rfl,_,_⟩:=hv
 have CL:=zh hcl
 clear hcl
 go_enter Tryz.func163,Tryz.ntmps163
 go_wp2_with fail
 refine CL.out.mono ?_
 rintro o w5 ⟨v5,rfl,hs5,hb5⟩
 have hs0:=hs5
 obtain ⟨a5,c5,rfl,_,_⟩:=hs5
 obtain ⟨m,hm⟩:∃ m,m=b.length:=⟨_,rfl⟩
 rw [←hm] at hs0 ⊢
 have S5:=zh hs0;have B5:=zh hb5;have HM:=zh hm
 have LB5:Hid (LB w5.heap.size a5 (lv b 0)):=fun hne p hp=>by
  obtain ⟨_,_,e5,_,hr5⟩:=hs0
  injection e5 with e5 _ _
  obtain ⟨bb,oo,ea,hlt,_⟩:=hr5 hne
  rw [hp,ea] at e5
  injection e5 with e5
  rw [e5];exact hlt
 clear hs0 hb5 hm CL
 go_wp2_with fail
 go_ret
 have b6:Below w5.heap.size w5 (w5.alloc (.cells (rdRow (.slice a5 m c5) 0) 270)):=(Below.refl _ _).alloc (Nat.le_refl _) _
 have a6:At (w5.alloc (.cells (rdRow (.slice a5 m c5) 0) 270)) w5.heap.size (rdRow (.slice a5 m c5) 0) 270:=at_new w5 _ _
 exact ⟨w5.heap.size,rfl,B5.out.size,⟨a5,c5,by rw [lv_zero,←HM.out];exact a6,by rw [lv_zero,←HM.out];exact S5.out.below b6,LB5.out⟩,B5.out.trans (b6.mono B5.out.size)⟩
def TkEnd (w:World) (br:Nat) (R:Rd3) (o:Ending) (w':World):Prop:=∃ a cap,o=.returned (.tuple #[.slice a R.x.length cap,.bool (R.e == 0)])∧Sl w' (.slice a R.x.length cap) R.x∧PkEnd RPk w br R.b R.e w'
theorem take_any (b:Lb8) (e n br:Nat) (w:World) (hr:RPk w br b e) (_hb:b.length≤8000) (_hn:n≤9223372036854775807) :
 Calls Tryz.prog 183 #[rp br,.int .i64 (n:Int)] w (TkEnd w br (rdTake b e n)):=by
 have hpe:=fun wx h=>perr0_any b e br wx h
 by_cases he0:e=0
 ·subst he0
  have hfa:=fun wx h=>fail_any b 0 4 br wx h (by decide)
  have hr0:=hr
  obtain ⟨a,cap,hat,hsl⟩:=hr.h
  rw [lv_zero] at hat hsl
  obtain ⟨m,hm⟩:∃ m,m=b.length:=⟨_,rfl⟩
  rw [←hm] at hat hsl _hb
  have c0:w.cell? ⟨br,0,none⟩=some (.slice a m cap):=by rw [hat.cell];rfl
  have f0:w.frozen? ⟨br,0,none⟩=false:=hat.free 0
  have PE:=zh hpe;have FA:=zh hfa;have HR:=zh hr0;have HA:=zh hat;have HS:=zh hsl;have HM:=zh hm
  clear hpe hfa hr hr0 hat hsl hm
  by_cases hlt:m < n
  ·have hrd:rdTake b 0 n=⟨[],b,4⟩:=by unfold rdTake;rw [if_neg (by simp),if_pos (by rw [←HM.out];exact hlt)]
   have g1:(m:Int) < (n:Int):=by omega
   have RD:=zh hrd
   clear hrd hlt
   go_enter Tryz.func183,Tryz.ntmps183
   go_wp2_with fail
   refine (PE.out w HR.out).mono ?_
   rintro o w' ⟨rfl,rfl⟩
   go_wp2_with fail
   refine (FA.out w HR.out).mono ?_
   rintro o w2 ⟨rfl,hp⟩
   have HP:=zh hp
   clear hp
   go_wp2_with fail
   go_ret2
   rw [RD.out]
   exact ⟨none,0,rfl,sl_none _,HP.out b⟩
  ·have hkm:n≤m:=by omega
   have hrd:rdTake b 0 n=⟨b.take n,b.drop n,0⟩:=by unfold rdTake;rw [if_neg (by simp),if_neg (by rw [←HM.out];exact hlt)]
   have g1:¬ (m:Int) < (n:Int):=by omega
   have RD:=zh hrd;have KM:=zh hkm
   clear hrd hlt
   go_enter Tryz.func183,Tryz.ntmps183
   go_wp2_with fail
   refine (PE.out w HR.out).mono ?_
   rintro o w' ⟨rfl,rfl⟩
   go_wp2_with (first
    | (refine wpList_piece_to zr 31 _ _ zr Tryz.underlying31 a m cap n b HM.out.symm zr HS.out zr KM.out ?_;intro hp1;have P1:=zh hp1;clear hp1)
    | (refine wpList_piece_from zr 31 _ _ zr Tryz.underlying31 a m cap n b HM.out.symm zr HS.out zr KM.out ?_;intro hp2;have P2:=zh hp2;clear hp2))
   go_ret2
   rw [RD.out]
   have hl1:(b.take n).length=n:=by rw [List.length_take,←HM.out];have:=KM.out;omega
   have h5:=rpk_left HR.out (pieceA a cap n) (m - n) (cap - n) (by rw [List.length_drop,←HM.out]) P2.out (lb_piece (HR.out.lb HA.out) cap n)
   exact ⟨pieceA a cap 0,cap,by rw [hl1];rfl,by rw [hl1];exact P1.out.but_at HA.out (rdRow_no _ _ _ _) h5.o,h5⟩
 ·have hrd:rdTake b e n=⟨[],b,e⟩:=by unfold rdTake;rw [if_pos (by simpa using he0)]
  have g1:¬ (e:Int)=0:=by omega
  have hbf:(e == 0)=false:=by simpa using he0
  have PE:=zh hpe;have RD:=zh hrd;have HR:=zh hr;have BF:=zh hbf
  clear hpe hrd hr he0 hbf
  go_enter Tryz.func183,Tryz.ntmps183
  go_wp2_with fail
  refine (PE.out w HR.out).mono ?_
  rintro o w' ⟨rfl,rfl⟩
  go_wp2_with fail
  go_ret2
  rw [RD.out]
  exact ⟨none,0,by rw [BF.out];rfl,sl_none _,rpk_same HR.out⟩
theorem pbytes_any (b:Lb8) (e:Nat) (z:Int) (br:Nat) (w:World) (hr:RPk w br b e) (hb:b.length≤8000) (h0:-9223372036854775808≤z) (h1:z≤9223372036854775807) :
 Calls Tryz.prog 166 #[rp br,.int .i64 z] w fun o w'=>∃ v,o=.returned v∧Sl w' v (rdTake b e z.toNat).x∧PkEnd RPk w br (rdTake b e z.toNat).b (rdTake b e z.toNat).e w':=by
 obtain ⟨k,hk⟩:∃ k,k=z.toNat:=⟨_,rfl⟩
 have hmax:max z 0=(k:Int):=by omega
 rw [←hk]
 have htk:=take_any b e k br w hr hb (by omega)
 have hxl:=(rdTake_small b e k).2.1
 have her:=fun h=>(rdTake_err b e k h).1
 obtain ⟨R,hR⟩:∃ R,R=rdTake b e k:=⟨_,rfl⟩
 rw [←hR] at htk hxl her ⊢
 have TK:=zh htk;have XL:=zh hxl;have ER:=zh her
 clear htk hxl her hR hr hk
 go_enter Tryz.func166,Tryz.ntmps166
 go_wp2_with fail
 refine TK.out.mono ?_
 rintro o w2 ⟨a,cap,rfl,hs2,h5⟩
 by_cases hre:R.e=0
 ·have hcl:=clone_any R.x (.slice a R.x.length cap) w2 (by have:=XL.out;omega) hs2
  have hbt:(R.e == 0)=true:=by simpa using hre
  rw [hbt]
  have CL:=zh hcl;have H5:=zh h5
  clear hcl h5 hs2 hre hbt
  go_wp2_with fail
  refine CL.out.mono ?_
  rintro o w3 ⟨v3,rfl,hs3,hb3⟩
  have S3:=zh hs3;have B3:=zh hb3
  clear hs3 hb3
  go_wp2_with fail
  go_ret
  exact ⟨v3,rfl,S3.out,H5.out.trans (rpk_below H5.out.r B3.out)⟩
 ·have hbf:(R.e == 0)=false:=by simpa using hre
  have hx:=ER.out hre
  rw [hbf]
  have H5:=zh h5;have HX:=zh hx
  clear h5 hs2 hre hbf hx
  go_wp2_with fail
  go_ret
  exact ⟨_,rfl,by rw [HX.out];exact sl_none _,H5.out⟩
theorem pnumget_any (b:Lb8) (e:Nat) (size:Int) (most:Nat) (br:Nat) (w:World) (hr:RPk w br b e) (hb:b.length≤8000) (_hmo:most < 18446744073709551616) :
 Calls Tryz.prog 164 #[rp br,.int .i64 size,.int .u64 (most:Int)] w fun o w'=>o=.returned (.int .u64 (((rdNum b e (cutN size 1 8) most).1:Nat):Int))∧PkEnd RPk w br (rdNum b e (cutN size 1 8) most).2.1 (rdNum b e (cutN size 1 8) most).2.2 w':=by
 have hns:=fun wx=>numSize_any size wx
 have c8:=cutN_hi size 1 8
 obtain ⟨K,hK⟩:∃ K,K=cutN size 1 8:=⟨_,rfl⟩
 rw [←hK] at hns c8 ⊢
 have htk:=take_any b e K br w hr hb (by omega)
 have hsm:=(rdTake_small b e K).1
 have hnum:rdNum b e K most=if (rdTake b e K).e≠0 then (0,(rdTake b e K).b,(rdTake b e K).e) else if most < leN (rdTake b e K).x then (0,(rdTake b e K).b,3) else (leN (rdTake b e K).x,(rdTake b e K).b,0):=rfl
 obtain ⟨R,hR⟩:∃ R,R=rdTake b e K:=⟨_,rfl⟩
 rw [←hR] at htk hsm hnum
 have NS:=zh hns;have TK:=zh htk;have SMA:=zh hsm;have NU:=zh hnum
 clear hns htk hsm hnum hR hK hr
 go_enter Tryz.func164,Tryz.ntmps164
 go_wp2_with fail
 refine (NS.out _).mono ?_
 rintro o w' ⟨rfl,rfl⟩
 go_wp2_with fail
 refine TK.out.mono ?_
 rintro o w2 ⟨a,cap,rfl,hs2,h5⟩
 by_cases hre:R.e=0
 ·have hnm:=num_any R.x (.slice a R.x.length cap) w2 (by have:=SMA.out;omega) hs2
  have hN64:leN R.x < 18446744073709551616:=leN_64 _ (by have:=SMA.out;omega)
  have hbt:(R.e == 0)=true:=by simpa using hre
  have hfa:=fail_any R.b R.e 3 br w2 h5.r (by decide)
  obtain ⟨N,hN⟩:∃ N,N=leN R.x:=⟨_,rfl⟩
  rw [←hN] at hnm hN64
  rw [hbt]
  by_cases hbig:most < N
  ·have hnu:rdNum b e K most=(0,R.b,3):=by rw [NU.out,if_neg (by simpa using hre),if_pos (by rw [←hN];exact hbig)]
   have g1:(most:Int) < (N:Int):=by omega
   have NN:=zh hnu;have NM:=zh hnm;have H5:=zh h5;have FA:=zh hfa
   clear hnu hnm h5 hfa hs2 hre hbt hbig hN
   go_wp2_with fail
   refine NM.out.mono ?_
   rintro o w3 ⟨rfl,rfl⟩
   go_wp2_with fail
   refine FA.out.mono ?_
   rintro o w4 ⟨rfl,hp⟩
   have HP:=zh hp
   clear hp
   go_wp2_with fail
   go_ret
   rw [NN.out]
   exact ⟨rfl,H5.out.trans (HP.out R.b)⟩
  ·have hnu:rdNum b e K most=(N,R.b,0):=by rw [NU.out,if_neg (by simpa using hre),if_neg (by rw [←hN];exact hbig),←hN]
   have g1:¬ (most:Int) < (N:Int):=by omega
   rw [hre] at h5
   have NN:=zh hnu;have NM:=zh hnm;have H5:=zh h5
   clear hnu hnm h5 hfa hs2 hre hbt hbig hN
   go_wp2_with fail
   refine NM.out.mono ?_
   rintro o w3 ⟨rfl,rfl⟩
   go_wp2_with fail
   go_ret
   rw [NN.out]
   exact ⟨rfl,H5.out⟩
 ·have hnu:rdNum b e K most=(0,R.b,R.e):=by rw [NU.out,if_pos hre]
  have hbf:(R.e == 0)=false:=by simpa using hre
  rw [hbf]
  have NN:=zh hnu;have H5:=zh h5
  clear hnu h5 hs2 hre hbf
  go_wp2_with fail
  go_ret
  rw [NN.out]
  exact ⟨rfl,H5.out⟩
theorem areZeros_any (l:Lb8) (v:Value) (w:World) (bl:l.length≤9223372036854775807) (hv:Sl w v l) :
 Calls Tryz.prog 187 #[v] w fun e w'=>e=.returned (.bool (allZ l))∧w=w':=by
 have hv0:=hv
 obtain ⟨a0,cap,rfl,_,_⟩:=hv
 obtain ⟨m,hm⟩:∃ m,m=l.length:=⟨_,rfl⟩
 rw [←hm] at bl
 have HV:=zh hv0;have HM:=zh hm
 rw [←hm]
 clear hv0 hm
 go_enter Tryz.func187,Tryz.ntmps187
 go_wp2_with fail
 go_loop [7] (fun i=>∃ j:Nat,j≤m∧i=.int .i64 j∧Hid (allZ (l.take j)=true)) (fun i=>m - (intOf i).toNat)
 case atStart=>exact ⟨0,by omega,rfl,(by show allZ (l.take 0)=true;rfl)⟩
 case round=>
  obtain ⟨j,hj,rfl,hI⟩:=hrel
  by_cases hlt:j < m
  ·obtain ⟨b1,o1,rfl,cx⟩:=sl_at (i:=j) HV.out (by rw [←HM.out];exact hlt)
   have hlt':(j:Int) < (m:Int):=by omega
   have htk:l.take (j+1)=l.take j++[l.getD j 0]:=by
    have hjl:j < l.length:=by rw [←HM.out];exact hlt
    rw [List.take_succ_eq_append_getElem hjl];simp [hjl]
   by_cases hx:l.getD j 0=0
   ·have hnx:allZ (l.take (j+1))=true:=by
     rw [htk,hx];unfold allZ;rw [List.all_append];have:=hI.out;unfold allZ at this;rw [this];rfl
    rw [hx,B8_zero] at cx
    have NX:=zh hnx
    clear hnx htk hx hI
    go_wp2
    go_round
    case rel=>exact ⟨j+1,by omega,by go_num,NX.out⟩
    case measure=>simp [intOf];omega
   ·have hno:allZ l=false:=by
     unfold allZ
     rw [Bool.eq_false_iff]
     intro h
     have hjl:j < l.length:=by rw [←HM.out];exact hlt
     have:=List.all_eq_true.1 h (l.getD j 0) (by simp [hjl])
     exact hx (by simpa using this)
    obtain ⟨x,hxx⟩:∃ x,x=l.getD j 0:=⟨_,rfl⟩
    rw [←hxx] at cx hx
    have hbn:¬ B8 x=0:=fun h=>hx (by have h2:=B8_eq x;rw [h] at h2;simpa using h2.symm)
    have hbe:(B8 x != 0)=true:=by rw [bne_iff_ne];exact hbn
    have NO:=zh hno
    clear hno htk hx hI hxx
    go_wp2
    go_ret
    exact ⟨by rw [NO.out];rfl,rfl⟩
  ·have hjm:j=m:=by omega
   have hge:¬ (j:Int) < (m:Int):=by omega
   have hall:Hid (allZ l=true):=by
    have h:=hI.out
    rw [hjm,HM.out,List.take_length] at h
    exact h
   clear hjm hlt hj hI
   go_wp2
   go_ret
   exact ⟨by rw [hall.out];rfl,rfl⟩
theorem prest_any (b:Lb8) (e:Nat) (br:Nat) (w:World) (hr:RPk w br b e) (hb:b.length≤8000) :
 Calls Tryz.prog 167 #[rp br] w fun o w'=>o=.returned (.int .i64 ((rdRest b e:Nat):Int))∧PkEnd RPk w br b (rdRest b e) w':=by
 have hpe:=fun e wx h=>perr0_any b e br wx h
 by_cases he:e=0
 ·subst he
  have hfa:=fun wx h=>fail_any b 0 3 br wx h (by decide)
  have hr0:=hr
  obtain ⟨a,cap,hat,hsl⟩:=hr.h
  rw [lv_zero] at hat hsl
  have haz:=areZeros_any b (.slice a b.length cap) w (by omega) hsl
  obtain ⟨m,hm⟩:∃ m,m=b.length:=⟨_,rfl⟩
  rw [←hm] at hat haz
  have c0:w.cell? ⟨br,0,none⟩=some (.slice a m cap):=by rw [hat.cell];rfl
  have PE:=zh hpe;have FA:=zh hfa;have HR:=zh hr0
  clear hpe hfa hr hr0 hat hsl hm
  cases hz:allZ b with
  | false=>
   have h1:rdRest b 0=3:=by rw [rdRest,if_pos ⟨rfl,hz⟩]
   rw [h1]
   rw [hz] at haz
   have AZ:=zh haz
   clear h1 haz hz
   go_enter Tryz.func167,Tryz.ntmps167
   go_wp2_with fail
   refine (PE.out 0 w HR.out).mono ?_
   rintro o w' ⟨rfl,rfl⟩
   go_wp2_with fail
   refine AZ.out.mono ?_
   rintro o w' ⟨rfl,rfl⟩
   go_wp2_with fail
   refine (FA.out w HR.out).mono ?_
   rintro o w2 ⟨rfl,hp⟩
   have HP:=zh (hp b)
   clear hp
   go_wp2_with fail
   refine (PE.out 3 w2 HP.out.r).mono ?_
   rintro o w' ⟨rfl,rfl⟩
   go_wp2_with fail
   go_ret
   exact ⟨rfl,HP.out⟩
  | true=>
   have h1:rdRest b 0=0:=by rw [rdRest,if_neg (by rw [hz];simp)]
   rw [h1]
   rw [hz] at haz
   have AZ:=zh haz
   clear h1 haz hz
   go_enter Tryz.func167,Tryz.ntmps167
   go_wp2_with fail
   refine (PE.out 0 w HR.out).mono ?_
   rintro o w' ⟨rfl,rfl⟩
   go_wp2_with fail
   refine AZ.out.mono ?_
   rintro o w' ⟨rfl,rfl⟩
   go_wp2_with fail
   refine (PE.out 0 _ HR.out).mono ?_
   rintro o w' ⟨rfl,rfl⟩
   go_wp2_with fail
   go_ret
   exact ⟨rfl,rpk_same HR.out⟩
 ·have h1:rdRest b e=e:=by rw [rdRest,if_neg (by simp [he])]
  have g1:¬ (e:Int)=0:=by omega
  rw [h1]
  have PE:=zh hpe;have HR:=zh hr
  clear hpe hr he h1
  go_enter Tryz.func167,Tryz.ntmps167
  go_wp2_with fail
  refine (PE.out e w HR.out).mono ?_
  rintro o w' ⟨rfl,rfl⟩
  go_wp2_with fail
  refine (PE.out e _ HR.out).mono ?_
  rintro o w' ⟨rfl,rfl⟩
  go_wp2_with fail
  go_ret
  exact ⟨rfl,rpk_same HR.out⟩
theorem rdNum_le (b:Lb8) (e k most:Nat):(rdNum b e k most).1≤most:=by
 unfold rdNum
 split
 ·exact Nat.zero_le _
 ·split
  ·exact Nat.zero_le _
  ·omega
theorem rdNum_len (b:Lb8) (e k most:Nat):(rdNum b e k most).2.1.length≤b.length:=by
 have h:=(rdTake_small b e k).2.2.1
 unfold rdNum
 split
 ·exact h
 ·split
  ·exact h
  ·exact h
theorem rdTake_x (b:Lb8) (e n:Nat):(rdTake b e n).x=[]∨(rdTake b e n).x.length=n:=by
 by_cases h:(rdTake b e n).e=0
 ·exact .inr (rdTake_len b e n h).1
 ·exact .inl (rdTake_err b e n h).1
theorem take_mid {α:Type} (p r:List α) (n:Nat) (hp:p.length=n):(p++r).take n=p:=by rw [←hp,List.take_left]
theorem rdNum_bad (b:Lb8) (e k most:Nat) (h:e≠0):rdNum b e k most=(0,b,e):=by
 have h2:rdTake b e k=⟨[],b,e⟩:=by unfold rdTake;rw [if_pos h]
 unfold rdNum
 rw [h2,if_pos h]
theorem rdNum_ok (b:Lb8) (k most:Nat) (hk:k≤b.length):rdNum b 0 k most=if most < leN (b.take k) then (0,b.drop k,3) else (leN (b.take k),b.drop k,0):=by
 have h2:rdTake b 0 k=⟨b.take k,b.drop k,0⟩:=by unfold rdTake;rw [if_neg (by simp),if_neg (by omega)]
 unfold rdNum
 rw [h2,if_neg (by simp)]
theorem rdTake_bad (b:Lb8) (e n:Nat) (h:e≠0):rdTake b e n=⟨[],b,e⟩:=by unfold rdTake;rw [if_pos h]
theorem rdTake_ok (b:Lb8) (n:Nat) (hn:n≤b.length):rdTake b 0 n=⟨b.take n,b.drop n,0⟩:=by unfold rdTake;rw [if_neg (by simp),if_neg (by omega)]
end Sha
end Go.Proofs.YtlhnegbjoncieaaGreatDoor
