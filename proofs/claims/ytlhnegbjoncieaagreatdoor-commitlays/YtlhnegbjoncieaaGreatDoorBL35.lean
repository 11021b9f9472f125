/- My own texts, merged. -/
import Derived.Test.YtlhnegbjoncieaaGreatDoorBL34
import Derived.Test.YtlhnegbjoncieaaGreatDoorBL33
import Derived.Test.YtlhnegbjoncieaaGreatDoorBL16
import Derived.Test.YtlhnegbjoncieaaGreatDoorBL12
import Derived.Test.YtlhnegbjoncieaaGreatDoorBL04
import Derived.Test.YtlhnegbjoncieaaGreatDoorBL30
import Derived.Test.YtlhnegbjoncieaaGreatDoorBL23
import Derived.Test.YtlhnegbjoncieaaGreatDoorBL00
import Derived.Test.YtlhnegbjoncieaaGreatDoorBL26
import Derived.Test.YtlhnegbjoncieaaGreatDoorBL28
import Derived.Test.YtlhnegbjoncieaaGreatDoorBL09
import Derived.Test.YtlhnegbjoncieaaGreatDoorBL14
import Derived.Laws.OwnMore
import Derived.Test.YtlhnegbjoncieaaGreatDoorBL08
import Derived.Test.YtlhnegbjoncieaaGreatDoorBL13
import Derived.Test.YtlhnegbjoncieaaGreatDoorBL07
import Derived.Test.YtlhnegbjoncieaaGreatDoorBL31
import Derived.Test.YtlhnegbjoncieaaGreatDoorBL21
set_option maxRecDepth 100000
set_option maxHeartbeats 8000000
namespace Go.Proofs.YtlhnegbjoncieaaGreatDoor
namespace Sha
open Go.RowKit Mem
set_option maxRecDepth 100000
theorem pst_lt {F:Foot} {b:Nat} {w:World} {s:St6} (h:PSt F b w s):∀ k,F k→k < w.heap.size:=by
 obtain ⟨D,bb,vw,vs,vt,hv⟩:=h;exact hv.lt
theorem pst_keep {F:Foot} {b:Nat} {w w':World} {s:St6} (h:PSt F b w s) (hs:w.heap.size≤w'.heap.size) (hk:∀ k,F k→k < w.heap.size→w'.heap[k]?=w.heap[k]?):PSt F b w' s:=by
 obtain ⟨D,bb,vw,vs,vt,hv⟩:=h;exact (hv.keep hs hk).ps
theorem pst_below {F:Foot} {b:Nat} {w w':World} {s:St6} (h:PSt F b w s) (hb:Below w.heap.size w w'):PSt F b w' s:=pst_keep h hb.size fun k _ hlt=>hb.block k hlt
def allP (P:List (Lb8)):Bool:=P.all fun x=>x.length == 256
theorem arePages_any (ts:List (Lb8)) (v:Value) (w:World) (hv:Sls w v ts) (_hl:∀ x∈ts,x.length≤1000) (hn:ts.length≤1000):Calls Tryz.prog 77 #[v] w (fun e w'=>e=.returned (.bool (allP ts))∧w'=w):=by
 have hv0:=hv
 obtain ⟨asx,caps,rfl,_,_⟩:=hv0
 have hno:∀ j,j < ts.length→(ts.getD j []).length≠256→allP ts=false:=fun j hj h=>by
  unfold allP
  rw [List.all_eq_false]
  refine ⟨ts.getD j [],?_,by simpa using h⟩
  rw [List.getD_eq_getElem?_getD,List.getElem?_eq_getElem hj]
  exact List.getElem_mem hj
 have hyes:(∀ j,j < ts.length→(ts.getD j []).length=256)→allP ts=true:=fun h=>by
  unfold allP
  rw [List.all_eq_true]
  intro p hp
  obtain ⟨j,hj,e⟩:=List.mem_iff_getElem.1 hp
  have:=h j hj
  rw [List.getD_eq_getElem?_getD,List.getElem?_eq_getElem hj,Option.getD_some,e] at this
  simpa using this
 obtain ⟨Y,hY⟩:∃ Y,Y=allP ts:=⟨_,rfl⟩
 rw [←hY] at hyes hno ⊢
 obtain ⟨n,hnn⟩:∃ n,n=ts.length:=⟨_,rfl⟩
 rw [←hnn] at hv hyes hno hn ⊢
 have HS:=zh hv;have HN:=zh hnn;have YES:=zh hyes;have NO:=zh hno
 clear hv hnn hyes hno hY _hl
 go_enter Tryz.func77,Tryz.ntmps77
 go_wp2_with fail
 go_loopw [7] (fun vi wr=>∃ j:Nat,j≤n∧vi=.int .i64 (j:Int)∧(∀ k,k < j→(ts.getD k []).length=256)∧wr=w) (fun vi _=>n - (intOf vi).toNat)
 case atStart=>exact ⟨0,by omega,rfl,fun k hk=>by omega,rfl⟩
 case round=>
  obtain ⟨j,hj,rfl,hal,rfl⟩:=hrel
  by_cases hlt:j < n
  ·have hlt':(j:Int) < (n:Int):=by omega
   have hps:j < ts.length:=by rw [←HN.out];exact hlt
   obtain ⟨pb,po,vi,rfl,hpb,hcell,hsl⟩:=sls_at HS.out hps
   have hy:=NO.out j hlt
   have hal2:(ts.getD j []).length=256→∀ k,k < j+1→(ts.getD k []).length=256:=fun h k hk=>by
    rcases Nat.lt_or_ge k j with x | x
    ·exact hal k x
    ·rw [show k=j by omega];exact h
   obtain ⟨a1,c1,rfl⟩:=sl_inv hsl
   obtain ⟨m,hm⟩:∃ m,m=(ts.getD j []).length:=⟨_,rfl⟩
   rw [←hm] at hcell hy hal2
   have HY:=zh hy;have AL2:=zh hal2
   clear hy hal2 hal hsl hm hps
   by_cases hbg:m=256
   ·subst hbg
    have AL3:=zh (AL2.out rfl)
    go_wp2_with fail
    go_roundw
    case rel=>exact ⟨j+1,by omega,by go_num,AL3.out,by first | rfl | trivial⟩
    case measure=>simp [intOf];omega
   ·have hb2:¬ (m:Int)=256:=by omega
    have HY2:=zh (HY.out hbg)
    go_wp2_with fail
    go_ret
    exact ⟨by rw [HY2.out];rfl,rfl⟩
  ·have hin:j=n:=by omega
   subst hin
   have HY:=zh (YES.out hal)
   have hge:¬ (j:Int) < (j:Int):=by omega
   go_wp2_with fail
   go_ret
   exact ⟨by rw [HY.out];rfl,rfl⟩
theorem kidsT_none {p:Nat} {z:Int} {pg:Lb8}:kidsT p z pg=parseN pg ((KZ p z).length:Int):=by
 unfold kidsT
 by_cases h:(KZ p z).length=0
 ·rw [if_pos h,h];rfl
 ·rw [if_neg h]
theorem pkids14_own (p:Nat) (z:Int) (pg:Lb8) (v:Value) (w:World) (hv:Sl w v pg) (hl:pg.length≤1000) (h1:p≤216):Calls Tryz.prog 92 #[.agg (psC p),.int .i64 z,v] w (RfOwn 38 w (kidsT p z pg).1 (kidsT p z pg).2):=by
 have kd:=fun wx=>pkids_any p z wx h1
 have ps:=fun wx (h:Below w.heap.size w wx)=>pparse13_own pg ((KZ p z).length:Int) v wx (hv.below h) hl
 rw [←kidsT_none] at ps
 obtain ⟨Y,hY⟩:∃ Y,Y=kidsT p z pg:=⟨_,rfl⟩
 rw [←hY] at ps ⊢
 have hb:=(Below.refl w.heap.size w).alloc (Nat.le_refl _) (.cells (psC p) 26)
 have ha:=at_new w (psC p) 26
 have cs:(psC p).size=1:=rfl
 obtain ⟨C,hC⟩:∃ C,C=psC p:=⟨_,rfl⟩
 rw [←hC] at kd hb ha cs ⊢
 obtain ⟨K,hK⟩:∃ K,K=KZ p z:=⟨_,rfl⟩
 rw [←hK] at kd ps
 have KD:=zh kd;have PS:=zh ps;have HB:=zh hb;have HA:=zh ha;have CS:=zh cs
 obtain ⟨a,c,rfl⟩:=sl_inv hv
 clear kd ps hb ha cs hv hY hC hK hl
 go_enter Tryz.func92,Tryz.ntmps92
 go_upto_region 1 with fail
 generalize w.alloc (.cells C 26)=w1 at *
 go_wp2_with (refine wpList_load_all zr 26 _ zr w.heap.size zr _ Tryz.underlying26 zr C _ HA.out (by rw [CS.out];exact infoPS) ?_)
 refine (KD.out _).mono ?_
 rintro e w2 ⟨vk,rfl,hk,hb2⟩
 obtain ⟨ak,ck,rfl⟩:=hk.hd
 have B2:=zh (HB.out.trans (hb2.mono HB.out.size))
 clear hk hb2
 go_wp2_with fail
 refine (PS.out _ B2.out).mono ?_
 rintro e w3 ⟨vr,rfl,hr,hb3⟩
 have R3:=zh hr;have B3:=zh (B2.out.trans (hb3.mono B2.out.size))
 clear hr hb3
 go_wp2_with fail
 go_ret2
 exact ⟨_,rfl,ownsRow_base R3.out B2.out.size,B3.out⟩
def FtEnd (w:World) (l:Lb8) (n:Int) (e:Ending) (w':World):Prop:=∃ v,e=.returned (.tuple #[v,.int .i64 n])∧SlB (fun k=>w.heap.size≤k) w' v l∧Below w.heap.size w w'
theorem bz_le (p:Nat) (z k:Int) (h1:p≤216):BZ p z k≤9223372036854775807:=by
 have:=itn_le259 p h1
 unfold BZ
 split <;> omega
theorem chg_none {w w':World} (h:Chg (fun _=>False) w w'):Below w.heap.size w w':=h.below (Below.refl _ _) (fun _ h=>h.elim) (Nat.le_refl _)
theorem pfetch14_rd {F:Foot} {b:Nat} {s:St6} {B:Lb8} (key:Lb8) (p:Nat) (z:Int) (r:RefV) (w:World) (hT:TT w) (lk:key.length=32) (hp:PSt F b w s) (hok:Ok6 1000 s) (hB:Rd6 s B) (h1:p≤216) (hrw:r.Wf) :
 Calls Tryz.prog 60 #[.pointer none,rq b,.agg (u8s key).toArray,.agg (psC p),.int .i64 z,.agg (refC r)] w (FtEnd w (fetchT B key p z r).1 (fetchT B key p z r).2):=by
 have bk:=fun wx=>pblock_any p z r.pl wx h1
 have hbz:=bz_le p z r.pl h1
 have hrd:∀ n:Nat,(n:Int)=BZ p z r.pl→n < s.n→stRead s n=blkOf B (BZ p z r.pl).toNat:=fun n hn hlt=>by
  rw [←hn,Int.toNat_natCast]
  exact hB.rd n hlt
 have hsb:B.length=s.n*256:=hB.len.trans hok.b
 have rdg:=fun (n:Nat) wx (h:Below w.heap.size w wx) (hn:n < s.n)=>pread_any n wx (pst_below hp h) hok hn
 have rdb:=fun wx (h:Below w.heap.size w wx) hbad=>pread_bad (BZ p z r.pl) wx (pst_below hp h) hok hbad
 have op:=fun (l:Lb8) (v:Value) (y wx:World) (h:Below w.heap.size w wx) (hv:SlB (fun k=>y.heap.size≤k) wx v l) (hl:l.length=256)=>popen_any (F:=fun _=>False) (bp:=.pointer none) (ts:=[]) key lk r hrw (BZ p z r.pl) hbz l v wx wx (.inl ⟨rfl,fun _ h=>h⟩) (by simp) hv (fun _ _ h=>h) (by omega) (hT.below h).1 (hT.below h).2 (Below.refl _ _) (fun _ h=>h.elim)
 have hF:fetchT B key p z r=if BZ p z r.pl < 0∨(B.length:Int) < 256*BZ p z r.pl+256 then ([],1) else openR key r (BZ p z r.pl) (blkOf B (BZ p z r.pl).toNat):=rfl
 obtain ⟨Y,hY⟩:∃ Y,Y=fetchT B key p z r:=⟨_,rfl⟩
 rw [←hY] at hF ⊢
 have rs:=refC_size hrw;have r0:=ref0 r
 obtain ⟨M,hM⟩:∃ M,M=refC r:=⟨_,rfl⟩
 have kc:(u8s key).toArray.size=32:=by simp [u8s_length,lk]
 obtain ⟨KC,hKC⟩:∃ K,K=(u8s key).toArray:=⟨_,rfl⟩
 have cs:(psC p).size=1:=rfl
 obtain ⟨C,hC⟩:∃ C,C=psC p:=⟨_,rfl⟩
 rw [←hM] at rs r0 op ⊢
 rw [←hKC] at kc op ⊢
 rw [←hC] at bk cs ⊢
 obtain ⟨Z,hZ⟩:∃ Z,Z=BZ p z r.pl:=⟨_,rfl⟩
 rw [←hZ] at bk hrd rdb op hF hbz
 obtain ⟨pl,hpl⟩:∃ pl,pl=r.pl:=⟨_,rfl⟩
 rw [←hpl] at bk r0
 have a0:At (((w.alloc (.cells KC 22)).alloc (.cells C 26)).alloc (.cells M 38)) w.heap.size KC 22:=((at_new w KC _).alloc _).alloc _
 have a1:At (((w.alloc (.cells KC 22)).alloc (.cells C 26)).alloc (.cells M 38)) (w.heap.size+1) C 26:=by
  have h:=(at_new (w.alloc (.cells KC 22)) C 26).alloc (.cells M 38)
  simpa using h
 have a2:At (((w.alloc (.cells KC 22)).alloc (.cells C 26)).alloc (.cells M 38)) (w.heap.size+1+1) M 38:=by
  have h:=at_new ((w.alloc (.cells KC 22)).alloc (.cells C 26)) M 38
  simpa using h
 have b4:Below w.heap.size w (((w.alloc (.cells KC 22)).alloc (.cells C 26)).alloc (.cells M 38)):=(((Below.refl _ _).alloc (Nat.le_refl _) _).alloc (by simp) _).alloc (by simp;omega) _
 have BK:=zh bk;have RD:=zh hrd;have SB:=zh hsb;have RDG:=zh rdg;have RDB:=zh rdb;have OP:=zh op;have HF:=zh hF;have RS:=zh rs;have R0:=zh r0;have KS:=zh kc;have CS:=zh cs;have A0:=zh a0;have A1:=zh a1;have A2:=zh a2;have B4:=zh b4;have ZM:=zh hbz;have OK:=zh hok
 clear bk hrd hsb rdg rdb op hF rs r0 kc cs a0 a1 a2 b4 hbz hZ hpl hC hKC hM hY hok hp hT lk hB hrw
 go_enter Tryz.func60,Tryz.ntmps60
 go_upto_region 1 with fail
 generalize ((w.alloc (.cells KC 22)).alloc (.cells C 26)).alloc (.cells M 38)=w4 at *
 have f0:w4.cell? ⟨w.heap.size+1+1,0,none⟩=some (.int .i64 pl):=(A2.out.cell 0).trans R0.out
 go_wp2_with (refine wpList_load_all zr 26 _ zr (w.heap.size+1) zr _ Tryz.underlying26 zr C _ A1.out (by rw [CS.out];exact infoPS) ?_)
 refine (BK.out _).mono ?_
 rintro e w5 ⟨rfl,hb5⟩
 have B5:=zh (B4.out.trans (hb5.mono B4.out.size));have A05:=zh (A0.out.below hb5 A0.out.lt);have A25:=zh (A2.out.below hb5 A2.out.lt)
 clear hb5 f0 A0 A1 A2 B4
 by_cases hz:Z < 0
 ·have hy:Y=([],1):=by rw [HF.out,if_pos (.inl hz)]
  have HY:=zh hy
  clear hy
  go_wp2_with fail
  go_ret2
  exact ⟨_,by rw [HY.out];rfl,by rw [HY.out];exact slB_nil _ _,B5.out⟩
 ·by_cases hb:Z < (s.n:Int)
  ·obtain ⟨n,hn⟩:∃ n:Nat,(n:Int)=Z:=⟨Z.toNat,by omega⟩
   have hns:n < s.n:=by omega
   have hy:Y=openR key r Z (stRead s n):=by
    rw [RD.out n hn hns,HF.out,if_neg (by have:=SB.out;omega)]
   have rg:=fun wx h=>RDG.out n wx h hns
   have hl:(stRead s n).length=256:=by
    rw [RD.out n hn hns,blkOf_length SB.out (by omega)]
   obtain ⟨l,hle⟩:∃ l,l=stRead s n:=⟨_,rfl⟩
   rw [←hle] at hy rg hl
   have HY:=zh hy;have RG:=zh rg;have HL:=zh hl
   subst hn
   clear hy rg hl hle hns hb
   go_wp2_with fail
   refine (RG.out _ B5.out).mono ?_
   rintro e w6 ⟨v6,rfl,hs6,hb6⟩
   have S6:=zh hs6;have B6:=zh (B5.out.trans (hb6.mono B5.out.size));have A06:=zh (A05.out.below hb6 A05.out.lt);have A26:=zh (A25.out.below hb6 A25.out.lt)
   clear hs6 hb6 A05 A25
   go_wp2_with (first
    | (refine wpList_load_all zr 22 _ zr w.heap.size zr _ Tryz.underlying22 zr KC _ A06.out (by rw [KS.out];kernel_rfl) ?_)
    | (refine wpList_load_all zr 38 _ zr (w.heap.size+1+1) zr _ Tryz.underlying38 zr M _ A26.out (by rw [RS.out];exact infoRfP) ?_))
   refine (OP.out l _ w5 _ B6.out S6.out HL.out).mono ?_
   rintro e w7 ⟨v7,F7,rfl,hs7,_,_,hc7⟩
   have S7:=zh (hs7.mono (G:=fun k=>w.heap.size≤k) fun k hk _=>Nat.le_trans B6.out.size hk.1);have B7:=zh (B6.out.trans ((chg_none hc7).mono B6.out.size))
   clear hs7 hc7
   go_wp2_with fail
   go_ret2
   exact ⟨_,by rw [HY.out];rfl,by rw [HY.out];exact S7.out,B7.out⟩
  ·have hy:Y=([],1):=by rw [HF.out,if_pos (.inr (by have:=SB.out;omega))]
   have HY:=zh hy;have RB:=zh (fun wx h=>RDB.out wx h (.inr (by omega)))
   clear hy
   go_wp2_with fail
   refine (RB.out _ B5.out).mono ?_
   rintro e w6 ⟨v6,rfl,hs6,hb6⟩
   have B6:=zh (B5.out.trans (hb6.mono B5.out.size))
   clear hs6 hb6
   go_wp2_with fail
   go_ret2
   exact ⟨_,by rw [HY.out];rfl,by rw [HY.out];exact slB_nil _ _,B6.out⟩
theorem pfetchKids_rd {F:Foot} {b:Nat} {s:St6} {B:Lb8} (key:Lb8) (p:Nat) (z:Int) (r:RefV) (w:World) (hT:TT w) (lk:key.length=32) (hp:PSt F b w s) (hok:Ok6 1000 s) (hB:Rd6 s B) (h1:p≤216) (hrw:r.Wf) :
 Calls Tryz.prog 59 #[.pointer none,rq b,.agg (u8s key).toArray,.agg (psC p),.int .i64 z,.agg (refC r)] w (RfOwn 38 w (fkT B key p z r).1 (fkT B key p z r).2):=by
 have ft:=fun wx (h:Below w.heap.size w wx)=>pfetch14_rd key p z r wx (hT.below h) lk (pst_below hp h) hok hB h1 hrw
 have kd:=fun v wx h hl=>pkids14_own p z (fetchT B key p z r).1 v wx h hl h1
 have hlen:(fetchT B key p z r).1.length≤1000:=by
  unfold fetchT
  split
  ·simp
  ·have hb:(blkOf B (BZ p z r.pl).toNat).length≤256:=by unfold blkOf;rw [List.length_take];omega
   unfold openR
   split
   ·simp
   ·split
    all_goals first | (show ([]:Lb8).length≤1000;simp;done) | (show (sealL _ _ _ _).length≤1000;rw [sealL_length];omega)
 have hF:fkT B key p z r=if (fetchT B key p z r).2≠0 then ([],(fetchT B key p z r).2) else kidsT p z (fetchT B key p z r).1:=rfl
 obtain ⟨Y,hY⟩:∃ Y,Y=fkT B key p z r:=⟨_,rfl⟩
 rw [←hY] at hF ⊢
 obtain ⟨X,hX⟩:∃ X,X=fetchT B key p z r:=⟨_,rfl⟩
 rw [←hX] at hF ft kd hlen
 obtain ⟨pg,q⟩:=X
 simp only at hF ft kd hlen
 have rs:=refC_size hrw
 obtain ⟨M,hM⟩:∃ M,M=refC r:=⟨_,rfl⟩
 have kc:(u8s key).toArray.size=32:=by simp [u8s_length,lk]
 obtain ⟨KC,hKC⟩:∃ K,K=(u8s key).toArray:=⟨_,rfl⟩
 have cs:(psC p).size=1:=rfl
 obtain ⟨C,hC⟩:∃ C,C=psC p:=⟨_,rfl⟩
 rw [←hM] at rs ft ⊢
 rw [←hKC] at kc ft ⊢
 rw [←hC] at ft kd cs ⊢
 have a0:At (((w.alloc (.cells KC 22)).alloc (.cells C 26)).alloc (.cells M 38)) w.heap.size KC 22:=((at_new w KC _).alloc _).alloc _
 have a1:At (((w.alloc (.cells KC 22)).alloc (.cells C 26)).alloc (.cells M 38)) (w.heap.size+1) C 26:=by
  have h:=(at_new (w.alloc (.cells KC 22)) C 26).alloc (.cells M 38)
  simpa using h
 have a2:At (((w.alloc (.cells KC 22)).alloc (.cells C 26)).alloc (.cells M 38)) (w.heap.size+1+1) M 38:=by
  have h:=at_new ((w.alloc (.cells KC 22)).alloc (.cells C 26)) M 38
  simpa using h
 have b4:Below w.heap.size w (((w.alloc (.cells KC 22)).alloc (.cells C 26)).alloc (.cells M 38)):=(((Below.refl _ _).alloc (Nat.le_refl _) _).alloc (by simp) _).alloc (by simp;omega) _
 have FT:=zh ft;have KD:=zh kd;have HL:=zh hlen;have HF:=zh hF;have RS:=zh rs;have KS:=zh kc;have CS:=zh cs;have A0:=zh a0;have A1:=zh a1;have A2:=zh a2;have B4:=zh b4
 clear ft kd hlen hF rs kc cs a0 a1 a2 b4 hX hY hM hKC hC hT lk hp hok hB hrw
 go_enter Tryz.func59,Tryz.ntmps59
 go_upto_region 1 with fail
 generalize ((w.alloc (.cells KC 22)).alloc (.cells C 26)).alloc (.cells M 38)=w4 at *
 go_wp2_with (first
  | (refine wpList_load_all zr 22 _ zr w.heap.size zr _ Tryz.underlying22 zr KC _ A0.out (by rw [KS.out];kernel_rfl) ?_)
  | (refine wpList_load_all zr 26 _ zr (w.heap.size+1) zr _ Tryz.underlying26 zr C _ A1.out (by rw [CS.out];exact infoPS) ?_)
  | (refine wpList_load_all zr 38 _ zr (w.heap.size+1+1) zr _ Tryz.underlying38 zr M _ A2.out (by rw [RS.out];exact infoRfP) ?_))
 refine (FT.out _ B4.out).mono ?_
 rintro e w5 ⟨v5,rfl,hs5,hb5⟩
 have S5:=zh hs5.sl;have B5:=zh (B4.out.trans (hb5.mono B4.out.size));have A15:=zh (A1.out.below hb5 A1.out.lt)
 clear hs5 hb5 A0 A1 A2 B4
 by_cases hq:q=0
 ·subst hq
  have hy:Y=kidsT p z pg:=by rw [HF.out,if_neg (fun n=>n rfl)]
  have HY:=zh hy
  clear hy
  go_wp2_with (refine wpList_load_all zr 26 _ zr (w.heap.size+1) zr _ Tryz.underlying26 zr C _ A15.out (by rw [CS.out];exact infoPS) ?_)
  refine (KD.out _ _ S5.out HL.out).mono ?_
  rintro e w6 ⟨v6,rfl,hr6,hb6⟩
  have R6:=zh hr6;have B6:=zh (B5.out.trans (hb6.mono B5.out.size))
  clear hr6 hb6
  go_wp2_with fail
  go_ret2
  exact ⟨_,by rw [HY.out];rfl,by rw [HY.out];exact ownsRow_base R6.out B5.out.size,B6.out⟩
 ·have hy:Y=([],q):=by rw [HF.out,if_pos hq]
  have HY:=zh hy
  clear hy
  go_wp2_with fail
  go_ret2
  exact ⟨_,by rw [HY.out];rfl,by rw [HY.out];exact World.ownsRow_nil _ _ _ _,B5.out⟩
def ptRow (q:Nat) (v:Value):Array Value:=#[.int .i64 (q:Int),v]
theorem ptRow_one (q:Nat) (a:Option Addr) (n c:Nat):(ptRow q (.slice a n c)).all (·.oneCell')=true:=by simp [ptRow,Value.oneCell']
theorem infoPt14:(Tryz.prog.info? 49).map (·.size)=some 2:=by kernel_rfl
theorem lput_at {G:Foot} {w:World} {a:Option Addr} {cap n:Nat} {l:List (Nat × Lb8)} (h:WPut G w (.slice a n cap) l) {j:Nat} (hj:j < l.length) :
 ∃ b o vh,a=some ⟨b,o,none⟩∧G b∧w.cell? ⟨b,o+j*2,none⟩=some (.int .i64 (((l.getD j (0,[])).1:Nat):Int))∧w.cell? ⟨b,o+j*2+1,none⟩=some vh∧SlB G w vh (l.getD j (0,[])).2:=by
 obtain ⟨ws,he,hl,a',cap',e,hc,hr⟩:=h
 injection e with e1 e2 _
 obtain ⟨b,o,ea,hG,_,hcell⟩:=hr (by omega)
 obtain ⟨p,hp,hp1,hp2⟩:=he.at (List.getElem?_eq_getElem hj)
 have h2:=putC_at ws j p hp
 have hd:l.getD j (0,[])=l[j]:=by rw [List.getD_eq_getElem?_getD,List.getElem?_eq_getElem hj];rfl
 refine ⟨b,o,p.2,by rw [e1];exact ea,hG,?_,?_,by rw [hd];exact hp2⟩
 ·rw [hd,←hp1,Nat.mul_comm];exact hcell _ _ h2.1
 ·have:=hcell _ _ h2.2
  rw [Nat.add_assoc,Nat.mul_comm];exact this
theorem plays14_any {F G:Foot} {b:Nat} {s:St6} (L:List (Nat × Lb8)) (v:Value) (w:World) (hp:PSt F b w s) (hok:Ok6 500 s) (hv:WPut G w v L) (hG:∀ k,G k→¬ F k) (hn:L.length≤400) (hL:∀ q∈L,q.1 < s.n∧q.2.length=256) :
 Calls Tryz.prog 14 #[rq b,v] w fun e w'=>e=.returned (.int .i64 0)∧StEnd PSt F b w (layS s L) w':=by
 obtain ⟨av,cv,rfl⟩:=hv.hd
 have hq:∀ j,j < L.length→(L.getD j (0,[])).1 < s.n∧(L.getD j (0,[])).2.length=256:=fun j hj=>by
  rw [List.getD_eq_getElem?_getD,List.getElem?_eq_getElem hj]
  exact hL _ (List.getElem_mem hj)
 have hok2:∀ j,j≤L.length→Ok6 1000 (layS s (L.take j)):=fun j hj=>(ok_lay hok (L.take j) fun q h=>hL q (List.mem_of_mem_take h)).mono (by rw [List.length_take];omega)
 have hst:∀ j,j < L.length→layS s (L.take (j+1))=dvWrite (layS s (L.take j)) (L.getD j (0,[])).1 (L.getD j (0,[])).2:=fun j hj=>by
  rw [List.take_add_one,List.getElem?_eq_getElem hj,List.getD_eq_getElem?_getD,List.getElem?_eq_getElem hj]
  exact layS_snoc _ _ _
 have hsn:∀ j,(layS s (L.take j)).n=s.n:=fun _=>rfl
 have hend:layS s (L.take L.length)=layS s L:=by rw [List.take_length]
 have h0:layS s (L.take 0)=s:=by rw [List.take_zero,layS_nil]
 have hlt:=pst_lt hp
 obtain ⟨n,hnn⟩:∃ n,n=L.length:=⟨_,rfl⟩
 rw [←hnn] at hv hn hq hok2 hst hend ⊢
 have HV:=zh hv;have HN:=zh hnn;have HQ:=zh hq;have OK2:=zh hok2;have ST:=zh hst;have SN:=zh hsn;have EN:=zh hend;have H0:=zh h0;have HP:=zh hp;have HG:=zh hG;have FL:=zh hlt
 clear hv hnn hq hok2 hst hsn hend h0 hp hG hL hok hlt
 go_enter Tryz.func14,Tryz.ntmps14
 go_wp2_with fail
 go_loopw [10] (fun vi wr=>∃ j:Nat,j≤n∧vi=.int .i64 (j:Int)∧∃ F',PSt F' b wr (layS s (L.take j))∧(∀ k,F' k→F k∨w.heap.size≤k)∧Chg F w wr∧WPut G wr (.slice av n cv) L∧∀ k,G k→k < w.heap.size→¬ F' k) (fun vi _=>n - (intOf vi).toNat)
 case atStart=>exact ⟨0,by omega,rfl,F,by rw [H0.out];exact HP.out,fun k h=>.inl h,Chg.refl _ _,HV.out,fun k h _=>HG.out k h⟩
 case round=>
  obtain ⟨j,hj,rfl,F',hp',hF',hc',hv',hg'⟩:=hrel
  by_cases hlt:j < n
  ·have hlt':(j:Int) < (n:Int):=by omega
   obtain ⟨q1,q2⟩:=HQ.out j hlt
   obtain ⟨b1,o1,vh,e1,hGb,cn0,ch0,hsh0⟩:=lput_at hv' (j:=j) (by rw [←HN.out];exact hlt)
   have hs1:=ST.out j hlt
   obtain ⟨x,hx⟩:∃ x,x=(L.getD j (0,[])).2:=⟨_,rfl⟩
   obtain ⟨q,hq⟩:∃ q,q=(L.getD j (0,[])).1:=⟨_,rfl⟩
   have cn:wr.cell? ⟨b1,o1+j*2,none⟩=some (.int .i64 (q:Int)):=by rw [hq];exact cn0
   have hsh:SlB G wr vh x:=by rw [hx];exact hsh0
   clear cn0 hsh0
   rw [←hx] at q2 hs1
   rw [←hq] at q1 hs1
   obtain ⟨a3,cap3,rfl⟩:=hsh.hd
   rw [q2] at ch0
   have ch:wr.cell? ⟨b1,o1+j*2+1,none⟩=some (.slice a3 256 cap3):=ch0
   have b3:Below wr.heap.size wr (wr.alloc (.cells (ptRow q (.slice a3 256 cap3)) 49)):=(Below.refl _ _).alloc (Nat.le_refl _) _
   have A3:=zh (at_new wr (ptRow q (.slice a3 256 cap3)) 49)
   have P3:=zh (pst_below hp' b3)
   have V3:=zh (WPut.keep hv' b3.size fun k _ hlt=>b3.block k hlt)
   have S3:Hid (Sl (wr.alloc (.cells (ptRow q (.slice a3 256 cap3)) 49)) (.slice a3 256 cap3) x):=by have h:=hsh.sl.below b3;rw [q2] at h;exact h
   have C3:=zh (hc'.trans (F1:=fun _=>False) (Chg.of_below b3) fun _ h=>h.elim)
   have S1:=zh hs1;have Q1:=zh q1;have Q2:=zh q2;have HF:=zh hF';have HG2:=zh hg'
   subst e1
   clear hp' hc' hv' hsh hs1 q1 q2 hF' hg' hx hq b3 ch0 hGb
   go_upto_region 4 with (refine wpList_store_new zr 49 _ _ zr zr (ptRow q (.slice a3 256 cap3)) _ _ zr zr (by exact infoPt14) zr (ptRow_one _ _ _ _) ?_)
   clear cn ch
   obtain ⟨bx,hbx⟩:∃ bx,bx=wr.heap.size:=⟨_,rfl⟩
   rw [←hbx] at A3 ⊢
   clear hbx
   generalize wr.alloc (.cells (ptRow q (.slice a3 256 cap3)) 49)=w3 at *
   have c0:w3.cell? ⟨bx,0,none⟩=some (.int .i64 (q:Int)):=(A3.out.cell 0).trans rfl
   have c1:w3.cell? ⟨bx,1,none⟩=some (.slice a3 256 cap3):=(A3.out.cell 1).trans rfl
   go_wp2_with fail
   refine (pwrite_good q x _ w3 P3.out (OK2.out j (by omega)) S3.out (by rw [SN.out];exact Q1.out) Q2.out).mono ?_
   rintro o w4 ⟨rfl,⟨F4,hp4,hF4⟩,hc4⟩
   have P4:Hid (PSt F4 b w4 (layS s (L.take (j+1)))):=zh (by rw [S1.out];exact hp4)
   have C4:=zh (C3.out.trans hc4 HF.out)
   have F4':Hid (∀ k,F4 k→F k∨w.heap.size≤k):=zh fun k hk=>by
    rcases hF4 k hk with h | h
    ·exact HF.out k h
    ·have:=C3.out.size;exact .inr (by omega)
   have G4:Hid (∀ k,G k→k < w.heap.size→¬ F4 k):=zh fun k hg hl hk=>by
    rcases hF4 k hk with h | h
    ·exact HG2.out k hg hl h
    ·have:=C3.out.size;omega
   have V4:=zh (WPut.keep HV.out C4.out.size fun k hg hl=>C4.out.block k hl (HG.out k hg))
   clear hp4 hF4 hc4 c0 c1
   go_wp2_with fail
   go_roundw
   case rel=>exact ⟨j+1,by omega,by go_num,F4,P4.out,F4'.out,C4.out,V4.out,G4.out⟩
   case measure=>simp [intOf];omega
  ·have hge:¬ (j:Int) < (n:Int):=by omega
   have hjm:j=n:=by omega
   subst hjm
   rw [EN.out] at hp'
   have PE:=zh hp';have FE:=zh hF';have CE:=zh hc'
   clear hp' hF' hc' hv' hg' hlt
   go_wp2_with fail
   go_ret
   exact ⟨rfl,⟨F',PE.out,FE.out⟩,CE.out⟩
end Sha
end Go.Proofs.YtlhnegbjoncieaaGreatDoor
namespace Go.Proofs.YtlhnegbjoncieaaGreatDoor
namespace Sha
open Go.RowKit Mem
set_option maxRecDepth 100000
theorem at_ne {w:World} {a b:Nat} {C D:Array Value} {s t:TypeId} (h:At w a C s) (k:At w b D t) (hne:s≠t):a≠b:=by
 rintro rfl
 unfold At at h k
 rw [h] at k
 injection k with k
 injection k with _ k2
 exact hne k2
structure MkI (w1 w:World) (bp br:Nat) (vp vr:Value) (D:Foot) (ws:List (Nat × Value)) (L:List (Nat × Lb8)) (R:List RefV):Prop where
 b:Below w1.heap.size w1 w
 gp:w1.heap.size≤bp
 gr:w1.heap.size≤br
 pb:At w bp #[vp] 40
 rb:At w br #[vr] 27
 e:Each2 (fun p q=>p.1=q.1∧SlB D w p.2 q.2) ws L
 po:w.ownsRow w1.heap.size 49 2 vp L.length (putC ws)
 ro:w.ownsRow w1.heap.size 38 34 vr R.length (refCs R)
 d:∀ k,D k→w1.heap.size≤k∧k < w.heap.size∧k≠bp∧k≠br∧vp.ownBlock≠some k∧vr.ownBlock≠some k
section
variable {w1 w w2 w3 w5 w6:World} {bp br:Nat} {vp vr vp' vr' v2:Value} {D G:Foot} {ws:List (Nat × Value)} {L:List (Nat × Lb8)} {R:List RefV}
theorem MkI.below (h:MkI w1 w bp br vp vr D ws L R) (hb:Below w.heap.size w w2):MkI w1 w2 bp br vp vr D ws L R:=
 ⟨h.b.trans (hb.mono h.b.size),h.gp,h.gr,h.pb.below hb h.pb.lt,h.rb.below hb h.rb.lt,h.e.mono fun _ _ x=>⟨x.1,x.2.keep hb.size fun k _ hl=>hb.block k hl⟩,ownsRow_below h.po hb,ownsRow_below h.ro hb,
  fun k hk=>let ⟨a,b,c⟩:=h.d k hk;⟨a,Nat.lt_of_lt_of_le b hb.size,c⟩⟩
theorem MkI.put {q:Nat} {x:Lb8} (h:MkI w1 w bp br vp vr D ws L R) (hb:Below w.heap.size w w2) (hs:SlB G w2 v2 x) (hG:∀ k,G k→w.heap.size≤k∧k < w2.heap.size) (hb3:Below w2.heap.size w2 w3) (ha:App w3 w5 vp vp') (hb5:Below w1.heap.size w3 w5)
 (ho:w5.ownsRow w1.heap.size 49 2 vp' (L.length+1) (putC ws++[.int .i64 (q:Int),v2])) (hA:At w6 bp #[vp'] 40) (hk:∀ k,k≠bp→w6.heap[k]?=w5.heap[k]?) (hB:∀ B a,Below B a w5→B≤bp→Below B a w6) :
 MkI w1 w6 bp br vp' vr (fun k=>D k∨G k) (ws++[(q,v2)]) (L++[(q,x)]) R:=by
 have hb13:Below w.heap.size w w3:=hb.trans (hb3.mono hb.size)
 have z1:=h.b.size;have z2:=hb.size;have z3:=hb3.size;have z5:=ha.size
 have z6:w5.heap.size≤w6.heap.size:=(hB 0 w5 (Below.refl _ _) (Nat.zero_le _)).size
 have hbp:=h.pb.lt;have hbr:=h.rb.lt
 have nep:vp.ownBlock≠some bp:=own_ne_at h.po h.pb (by decide)
 have ner:vp.ownBlock≠some br:=own_ne_at h.po h.rb (by decide)
 have nrp:vr.ownBlock≠some bp:=own_ne_at h.ro h.pb (by decide)
 have nbr:bp≠br:=at_ne h.pb h.rb (by decide)
 have hlp:=fun k hk=>(World.ownsRow.lt h.po k hk).2
 have hlr:=fun k hk=>(World.ownsRow.lt h.ro k hk).2
 have keep:∀ k,k < w.heap.size→k≠bp→vp.ownBlock≠some k→w6.heap[k]?=w.heap[k]?:=fun k hl h1 h2=>by
  rw [hk k h1,ha.k k (by omega) h2,hb13.block k hl]
 have keep2:∀ k,w.heap.size≤k→k < w2.heap.size→w6.heap[k]?=w2.heap[k]?:=fun k h1 hl=>by
  rw [hk k (by omega),ha.k k (by omega) (fun e=>by have:=hlp k e;omega),hb3.block k hl]
 have hp5:At w5 bp #[vp] 40:=at_appd (h.pb.below hb13 hbp) ha nep
 have nep5:vp'.ownBlock≠some bp:=own_ne_at ho hp5 (by decide)
 refine ⟨hB _ _ (((h.b.trans (hb.mono z1)).trans (hb3.mono (by omega))).trans hb5) h.gp,h.gp,h.gr,hA,?_,?_,?_,?_,?_⟩
 ·have:=h.rb
  unfold At at *
  rw [keep br hbr (fun e=>nbr e.symm) ner];exact this
 ·refine Each2.snoc ⟨rfl,?_⟩ (h.e.mono fun p r hx=>⟨hx.1,?_⟩)
  ·exact ((hs.keep (by omega) fun k hg hl=>keep2 k (hG k hg).1 hl).mono fun k hg _=>.inr hg)
  ·refine ((hx.2.keep (by omega) fun k hd hl=>?_).mono fun k hd _=>.inl hd)
   obtain ⟨_,_,d3,_,d5,_⟩:=h.d k hd
   exact keep k hl d3 d5
 ·rw [putC_snoc,List.length_append]
  exact ownsRow_keep ho fun g hg=>hk g (fun e=>nep5 (by rw [←e];exact hg))
 ·refine ownsRow_keep h.ro fun g hg=>keep g (hlr g hg) (fun e=>nrp (by rw [←e];exact hg)) ?_
  exact fun e=>ownsRow_ne h.po h.ro (by decide) g e hg
 ·intro k hk2
  have hnew:∀ k,k < w2.heap.size→vp.ownBlock≠some k→vp'.ownBlock≠some k:=fun k hl hne=>by
   rcases ha.b with e | ⟨g,e,hge⟩
   ·rw [e];exact hne
   ·rw [e];intro c;injection c with c;omega
  rcases hk2 with hd | hg
  ·obtain ⟨d1,d2,d3,d4,d5,d6⟩:=h.d k hd
   exact ⟨d1,by omega,d3,d4,hnew k (by omega) d5,d6⟩
  ·obtain ⟨g1,g2⟩:=hG k hg
   exact ⟨by omega,by omega,by omega,by omega,hnew k g2 (fun e=>by have:=hlp k e;omega),fun e=>by have:=hlr k e;omega⟩
theorem MkI.ref {r:RefV} (h:MkI w1 w bp br vp vr D ws L R) (hb13:Below w.heap.size w w3) (ha:App w3 w5 vr vr') (hb5:Below w1.heap.size w3 w5)
 (ho:w5.ownsRow w1.heap.size 38 34 vr' (R.length+1) (refCs R++refL r)) (hA:At w6 br #[vr'] 27) (hk:∀ k,k≠br→w6.heap[k]?=w5.heap[k]?) (hB:∀ B a,Below B a w5→B≤br→Below B a w6) :
 MkI w1 w6 bp br vp vr' D ws L (R++[r]):=by
 have z1:=h.b.size;have z3:=hb13.size;have z5:=ha.size
 have z6:w5.heap.size≤w6.heap.size:=(hB 0 w5 (Below.refl _ _) (Nat.zero_le _)).size
 have hbp:=h.pb.lt;have hbr:=h.rb.lt
 have nep:vr.ownBlock≠some bp:=own_ne_at h.ro h.pb (by decide)
 have ner:vr.ownBlock≠some br:=own_ne_at h.ro h.rb (by decide)
 have npr:vp.ownBlock≠some br:=own_ne_at h.po h.rb (by decide)
 have nbr:bp≠br:=at_ne h.pb h.rb (by decide)
 have hlp:=fun k hk=>(World.ownsRow.lt h.po k hk).2
 have hlr:=fun k hk=>(World.ownsRow.lt h.ro k hk).2
 have keep:∀ k,k < w.heap.size→k≠br→vr.ownBlock≠some k→w6.heap[k]?=w.heap[k]?:=fun k hl h1 h2=>by
  rw [hk k h1,ha.k k (by omega) h2,hb13.block k hl]
 have hr5:At w5 br #[vr] 27:=at_appd (h.rb.below hb13 hbr) ha ner
 have ner5:vr'.ownBlock≠some br:=own_ne_at ho hr5 (by decide)
 refine ⟨hB _ _ ((h.b.trans (hb13.mono z1)).trans hb5) h.gr,h.gp,h.gr,?_,hA,?_,?_,?_,?_⟩
 ·have:=h.pb
  unfold At at *
  rw [keep bp hbp nbr nep];exact this
 ·refine h.e.mono fun p q hx=>⟨hx.1,hx.2.keep (by omega) fun k hd hl=>?_⟩
  obtain ⟨_,_,_,d4,_,d6⟩:=h.d k hd
  exact keep k hl d4 d6
 ·refine ownsRow_keep h.po fun g hg=>keep g (hlp g hg) (fun e=>npr (by rw [←e];exact hg)) ?_
  exact fun e=>ownsRow_ne h.po h.ro (by decide) g hg e
 ·rw [refCs_snoc,List.length_append]
  exact ownsRow_keep ho fun g hg=>hk g (fun e=>ner5 (by rw [←e];exact hg))
 ·intro k hd
  obtain ⟨d1,d2,d3,d4,d5,d6⟩:=h.d k hd
  refine ⟨d1,by omega,d3,d4,d5,?_⟩
  rcases ha.b with e | ⟨g,e,hge⟩
  ·rw [e];exact d6
  ·rw [e];intro c;injection c with c;omega
end
theorem elemPt:elemR Tryz.prog 40 49 (.agg #[.int .i64 0,.slice none 0 0]) 2 32:=⟨Tryz.underlying40,by kernel_rfl⟩
theorem infoPts:(Tryz.prog.info? 40).map (·.size)=some 1:=by kernel_rfl
theorem infoRfs:(Tryz.prog.info? 27).map (·.size)=some 1:=by kernel_rfl
theorem buildPt (q:Nat) (a2:Option Addr) (l c:Nat) (wx:World):(Instr.build 49 #[(0,.int .i64 (q:Int)),(1,.slice a2 l c)]).run Tryz.prog wx=.ok (.agg (ptRow q (.slice a2 l c))) wx:=by
 unfold ptRow
 kernel_rfl
theorem builtPt (q:Nat) (a2:Option Addr) (l c:Nat):Tryz.prog.builtSlice 49 1 [(0,.agg (ptRow q (.slice a2 l c)))]=some (ptRow q (.slice a2 l c)):=by
 unfold ptRow
 kernel_rfl
theorem pput_any {w1 w:World} {bb bk be bs bp br p i:Nat} {ep:BitVec 32} {vp vr:Value} {D:Foot} {ws:List (Nat × Value)} {L:List (Nat × Lb8)} {R:List RefV} (key:Lb8) (pg:Lb8) (v:Value) (lk:key.length=32) (hT:TT w1) (h1:p≤216) (hi:i < itn p)
 (h:MkI w1 w bp br vp vr D ws L R) (hbb:At w1 bb #[.pointer none] 101) (hbk:At w1 bk (u8s key).toArray 22) (hbe:At w1 be #[.int .u32 (V ep)] 36) (hbs:At w1 bs (psC p) 26)
 (hv:Sl w v pg) (hp:pg.length=256) (hL:L.length≤1000) (hR:R.length≤1000) :
 Calls Tryz.prog 78 #[.int .i64 (i:Int),v,.pointer (some ⟨bs,0,none⟩),.pointer (some ⟨bb,0,none⟩),.pointer (some ⟨bk,0,none⟩),.pointer (some ⟨be,0,none⟩),.pointer (some ⟨bp,0,none⟩),.pointer (some ⟨br,0,none⟩)] w
  fun e w'=>e=.returned (.int .i64 0)∧∃ vp' vr' D' ws',MkI w1 w' bp br vp' vr' D' ws' (L++[(2+2*i,(hideR key ep 0 (2+2*(i:Int)) pg).1)]) (R++[(hideR key ep 0 (2+2*(i:Int)) pg).2.1]):=by
 have bk0:=fun wx=>pblock_any p (i:Int) 0 wx h1
 have hbz:BZ p (i:Int) 0=((2+2*i:Nat):Int):=by rw [show (0:Int)=((0:Nat):Int) from rfl,BZ_at p i 0 hi (by decide)];omega
 rw [hbz] at bk0
 have hit:=itn_le259 p h1
 have e0:(2:Int)+2*(i:Int)=((2+2*i:Nat):Int):=by omega
 rw [e0]
 have hgd:=hideR_good key ep 0 ((2+2*i:Nat):Int) pg hp (by omega) (by omega) (by omega)
 have hd:=fun wx (hb:Below w1.heap.size w1 wx) (hs:Sl wx v pg)=>phide_any (F:=fun _=>False) (bp:=.pointer none) (ts:=[]) key lk ep 0 ((2+2*i:Nat):Int) (by omega) pg v wx w1 (.inl ⟨rfl,fun _ h=>h⟩) (by simp) hs (by omega) hT.1 hT.2 hb (fun _ h=>h.elim)
 have hrw:(hideR key ep 0 ((2+2*i:Nat):Int) pg).2.1.Wf:=hideR_wf _ _ _ _ _
 have hlen:(hideR key ep 0 ((2+2*i:Nat):Int) pg).1.length=256:=by rw [hgd];exact (sealL_length ..).trans hp
 have h3:(hideR key ep 0 ((2+2*i:Nat):Int) pg).2.2=0:=by rw [hgd]
 rw [h3] at hd
 obtain ⟨q,hq⟩:∃ q,q=2+2*i:=⟨_,rfl⟩
 rw [←hq] at hd hrw hlen bk0 ⊢
 obtain ⟨x,hx⟩:∃ x,x=(hideR key ep 0 (q:Int) pg).1:=⟨_,rfl⟩
 obtain ⟨r,hr⟩:∃ r,r=(hideR key ep 0 (q:Int) pg).2.1:=⟨_,rfl⟩
 rw [←hx,←hr] at hd ⊢
 rw [←hx] at hlen
 rw [←hr] at hrw
 have hd:∀ wx:World,Below w1.heap.size w1 wx→Sl wx v pg→Calls Tryz.prog 79 #[.pointer none,.agg (u8s key).toArray,.int .u32 (V ep),.int .i64 0,.int .i64 (q:Int),v] wx fun e w'=>∃ v',e=.returned (.tuple #[v',.agg (refC r),.int .i64 0])∧SlB (fun k=>wx.heap.size≤k∧k < w'.heap.size) w' v' x∧Below wx.heap.size wx w':=fun wx hb hs=>by
  refine (hd wx hb hs).mono ?_
  rintro e w' ⟨v',F',h4,h5,_,_,h6⟩
  exact ⟨v',h4,h5.mono fun k hk hl=>⟨hk.1,hl⟩,chg_none h6⟩
 have rs:=refC_size hrw;have ro:=refC_one r
 have rbt:=built_rp r hrw
 have rdf:=fun wx=>rd_rf (w:=wx) (e:=38) hrw
 have rl:=refL_one r
 obtain ⟨M,hM⟩:∃ M,M=refC r:=⟨_,rfl⟩
 have kc:(u8s key).toArray.size=32:=by simp [u8s_length,lk]
 obtain ⟨KC,hKC⟩:∃ K,K=(u8s key).toArray:=⟨_,rfl⟩
 have cs:(psC p).size=1:=rfl
 obtain ⟨C,hC⟩:∃ C,C=psC p:=⟨_,rfl⟩
 have hxr:=zeroRfP
 obtain ⟨Z,hZ⟩:∃ Z,Z=refC zref:=⟨_,rfl⟩
 have zs:Z.size=34:=by rw [hZ];exact refC_size zref_wf
 rw [←hZ] at hxr
 rw [←hM] at rs ro rbt rdf hd
 rw [←hKC] at kc hd hbk
 rw [←hC] at bk0 cs hbs
 obtain ⟨nL,hnL⟩:∃ n,n=L.length:=⟨_,rfl⟩
 obtain ⟨nR,hnR⟩:∃ n,n=R.length:=⟨_,rfl⟩
 rw [←hnL] at hL
 rw [←hnR] at hR
 have hbld:=buildPt q
 have hbt:=builtPt q
 have cb:w.cell? ⟨bb,0,none⟩=some (.pointer none):=(h.b.cell (p:=⟨bb,0,none⟩) hbb.lt).trans ((hbb.cell 0).trans rfl)
 have ce:w.cell? ⟨be,0,none⟩=some (.int .u32 (V ep)):=(h.b.cell (p:=⟨be,0,none⟩) hbe.lt).trans ((hbe.cell 0).trans rfl)
 have CB:=zh cb;have CE:=zh ce;have LBB:=zh (Nat.lt_of_lt_of_le hbb.lt h.b.size);have LBE:=zh (Nat.lt_of_lt_of_le hbe.lt h.b.size)
 have BK:=zh bk0;have HD:=zh hd;have RS:=zh rs;have RO:=zh ro;have RB:=zh rbt;have RDF:=zh rdf;have RLO:=zh rl;have KS:=zh kc;have CS:=zh cs;have ZS:=zh zs;have BLD:=zh hbld;have BT:=zh hbt;have XL:=zh hlen;have NL:=zh hnL;have NR:=zh hnR
 have AK:=zh (hbk.below h.b hbk.lt);have AS:=zh (hbs.below h.b hbs.lt);have I:=zh h;have HV:=zh hv;have HRL:Hid (refL r=M.toList):=zh (by rw [hM];rfl)
 obtain ⟨av,cv,rfl⟩:=sl_inv hv
 rw [hp] at HD HV ⊢
 clear bk0 hd rs ro rbt rdf rl kc cs zs hbld hbt hlen hbk hbs h hv cb ce hM hKC hC hZ hx hr hgd h3 hrw hbb hbe hq e0 hbz hit hT hnL hnR hp
 go_enter Tryz.func78,Tryz.ntmps78
 go_wp2_with (refine wpList_load_all zr 26 _ zr bs zr _ Tryz.underlying26 zr C _ AS.out (by rw [CS.out];exact infoPS) ?_)
 refine (BK.out _).mono ?_
 rintro e w2 ⟨rfl,hb2⟩
 have cb:w2.cell? ⟨bb,0,none⟩=some (.pointer none):=(hb2.cell (p:=⟨bb,0,none⟩) LBB.out).trans CB.out
 have ce:w2.cell? ⟨be,0,none⟩=some (.int .u32 (V ep)):=(hb2.cell (p:=⟨be,0,none⟩) LBE.out).trans CE.out
 have I2:=zh (I.out.below hb2);have AK2:=zh (AK.out.below hb2 AK.out.lt);have V2:=zh (HV.out.below hb2)
 clear hb2
 go_wp2_with (refine wpList_load_all zr 22 _ zr bk zr _ Tryz.underlying22 zr KC _ AK2.out (by rw [KS.out];kernel_rfl) ?_)
 refine (HD.out _ I2.out.b V2.out).mono ?_
 rintro e w3 ⟨v3,rfl,hs3,hb3⟩
 obtain ⟨a3,c3,e3⟩:=sl_inv hs3.sl
 rw [XL.out] at e3
 subst e3
 clear cb ce
 have hb4:Below w2.heap.size w2 (w3.alloc (.cells M 38)):=hb3.alloc hb3.size _
 have B4:=zh hb4
 have S4:Hid (SlB (fun k=>w2.heap.size≤k∧k < (w3.alloc (.cells M 38)).heap.size) (w3.alloc (.cells M 38)) (.slice a3 256 c3) x):=zh ((hs3.keep (by simp) fun k _ hl=>((Below.refl w3.heap.size w3).alloc (Nat.le_refl _) _).block k hl).mono fun k hk hl=>⟨hk.1,hl⟩)
 have A4:=zh (at_new w3 M 38)
 clear hs3 hb3 hb4
 go_upto_region 3 with (refine wpList_store_new zr 38 _ _ zr zr M _ _ zr zr (by rw [RS.out];exact infoRfP) (by rw [RS.out,ZS.out]) RO.out ?_)
 clear hxr
 obtain ⟨bm,hbm⟩:∃ bm,bm=w3.heap.size:=⟨_,rfl⟩
 rw [←hbm] at A4 ⊢
 clear hbm
 generalize (w3.alloc (.cells M 38))=w4 at *
 have I4:=zh (I2.out.below B4.out)
 obtain ⟨ap,cp,rfl⟩:=rows_hd I4.out.po
 obtain ⟨ar,cr,rfl⟩:=rows_hd I4.out.ro
 have O5:Hid ((w4.alloc (.cells (ptRow q (.slice a3 256 c3)) 49)).ownsRow w1.heap.size 49 2 (.slice ap nL cp) nL (putC ws)):=zh (by
  have h:=World.ownsRow.alloc I4.out.po (.cells (ptRow q (.slice a3 256 c3)) 49)
  rw [←NL.out] at h
  exact h)
 have P5:Hid (At (w4.alloc (.cells (ptRow q (.slice a3 256 c3)) 49)) bp #[.slice ap nL cp] 40):=zh (by rw [NL.out];exact I4.out.pb.alloc _)
 have cp0:w4.cell? ⟨bp,0,none⟩=some (.slice ap nL cp):=by rw [NL.out];exact (I4.out.pb.cell 0).trans rfl
 have B5:Hid (w1.heap.size≤(w4.alloc (.cells (ptRow q (.slice a3 256 c3)) 49)).heap.size):=zh (by have:=I4.out.b.size;simp;omega)
 have Q5:Hid (Below w4.heap.size w4 (w4.alloc (.cells (ptRow q (.slice a3 256 c3)) 49))):=zh ((Below.refl _ _).alloc (Nat.le_refl _) _)
 go_upto_region 4 with (first
  | (refine Mem.wpList_build zr 49 _ #[(0,.int .i64 (q:Int)),(1,.slice a3 256 c3)] (.agg (ptRow q (.slice a3 256 c3))) zr (by first | rfl | simp [Act.eval]) (fun wx=>BLD.out _ _ _ wx) ?_)
  | ((refine Go.Great.wpList_buildSliceTo zr 40 49 1 _ zr _ zr _ zr Tryz.underlying40 (ptRow q (.slice a3 256 c3)) (by first | (simp [Act.eval,Act.put];exact BT.out _ _ _) | (go_simp;exact BT.out _ _ _) | (simp only [List.map_toArray,List.map_cons,List.map_nil];exact BT.out _ _ _)) ?_))
  | (at_builtin;go_loud (refine wpList_append_app zr _ _ 40 zr (.slice (some ⟨w4.heap.size,0,none⟩) 1 1) nL 1 2 [.int .i64 (q:Int),.slice a3 256 c3] (.agg #[.int .i64 0,.slice none 0 0]) 32 elemPt zr (by decide) zr O5.out zr (by exact rdR_new (e:=49) (C:=ptRow q (.slice a3 256 c3))) (by simp [Value.oneCell']) (by omega) (by omega) B5.out ?_);intro v6 w6 ho6 ha6 hb6;obtain ⟨a6,c6,rfl⟩:=rows_hd ho6;have O6:=zh ho6;have A6:=zh ha6;have B6:=zh hb6;have P6:=zh (at_appd P5.out ha6 (own_ne_at O5.out P5.out (by decide)));clear ho6 ha6 hb6)
  | (refine Mem.wpList_store_one zr 40 _ _ zr zr bp 0 (.slice a6 (nL+1) c6) zr zr zr infoPts _ 40 P6.out (by simp) ?_;intro w7 ha7 ho7 hb7;have A7:=zh ha7;have H7:=zh ho7;have B7:=zh hb7;clear ha7 ho7 hb7))
 clear cp0
 have I7:Hid (MkI w1 w7 bp br (.slice a6 (nL+1) c6) (.slice ar R.length cr) (fun k=>D k∨(w2.heap.size≤k∧k < w4.heap.size)) (ws++[(q,.slice a3 256 c3)]) (L++[(q,x)]) R):=zh (by
  have hn:=NL.out
  subst hn
  exact MkI.put I2.out B4.out S4.out (fun k hk=>hk) Q5.out A6.out B6.out O6.out A7.out (fun k hk=>H7.out k hk) (fun B a hb hle=>B7.out B a hb hle))
 have M7:Hid (At w7 bm M 38):=zh (by
  have hn1:bm≠bp:=at_ne A4.out I4.out.pb (by decide)
  have h5:=at_appd (A4.out.alloc (.cells (ptRow q (.slice a3 256 c3)) 49)) A6.out (own_ne_at O5.out (A4.out.alloc _) (by decide))
  unfold At at *
  rw [H7.out bm hn1];exact h5)
 clear I4 O5 P5 B5 Q5 O6 A6 B6 P6 A7 H7 B7 A4 S4 B4
 have O8:Hid ((w7.alloc (.cells M 38)).ownsRow w1.heap.size 38 34 (.slice ar nR cr) nR (refCs R)):=zh (by
  have h:=World.ownsRow.alloc I7.out.ro (.cells M 38)
  rw [←NR.out] at h
  exact h)
 have P8:Hid (At (w7.alloc (.cells M 38)) br #[.slice ar nR cr] 27):=zh (by rw [NR.out];exact I7.out.rb.alloc _)
 have cr0:w7.cell? ⟨br,0,none⟩=some (.slice ar nR cr):=by rw [NR.out];exact (I7.out.rb.cell 0).trans rfl
 have B8:Hid (w1.heap.size≤(w7.alloc (.cells M 38)).heap.size):=zh (by have:=I7.out.b.size;simp;omega)
 have Q8:Hid (Below w7.heap.size w7 (w7.alloc (.cells M 38))):=zh ((Below.refl _ _).alloc (Nat.le_refl _) _)
 go_upto_region 5 with (first
  | (refine wpList_load_all zr 38 _ zr bm zr _ Tryz.underlying38 zr M _ M7.out (by rw [RS.out];exact infoRfP) ?_)
  | ((refine Go.Great.wpList_buildSliceTo zr 27 38 1 _ zr _ zr _ zr Tryz.underlying27 M (by first | (simp [Act.eval,Act.put];exact RB.out) | (go_simp;exact RB.out) | (simp only [List.map_toArray,List.map_cons,List.map_nil];exact RB.out)) ?_))
  | (at_builtin;go_loud (refine wpList_append_app zr _ _ 27 zr (.slice (some ⟨w7.heap.size,0,none⟩) 1 1) nR 1 34 (refL r) (.agg (refC zref)) 48 elemRP (refC_size zref_wf) (by decide) zr O8.out zr (RDF.out w7) RLO.out (by omega) (by omega) B8.out ?_);intro v9 w9 ho9 ha9 hb9;obtain ⟨a9,c9,rfl⟩:=rows_hd ho9;have O9:=zh ho9;have A9:=zh ha9;have B9:=zh hb9;have P9:=zh (at_appd P8.out ha9 (own_ne_at O8.out P8.out (by decide)));clear ho9 ha9 hb9)
  | (refine Mem.wpList_store_one zr 27 _ _ zr zr br 0 (.slice a9 (nR+1) c9) zr zr zr infoRfs _ 27 P9.out (by simp) ?_;intro w10 ha10 ho10 hb10;have A10:=zh ha10;have H10:=zh ho10;have B10:=zh hb10;clear ha10 ho10 hb10))
 clear cr0
 have I10:Hid (MkI w1 w10 bp br (.slice a6 (nL+1) c6) (.slice a9 (nR+1) c9) (fun k=>D k∨(w2.heap.size≤k∧k < w4.heap.size)) (ws++[(q,.slice a3 256 c3)]) (L++[(q,x)]) (R++[r])):=zh (by
  have hn:=NR.out
  subst hn
  exact MkI.ref (r:=r) I7.out Q8.out A9.out B9.out O9.out A10.out (fun k hk=>H10.out k hk) (fun B a hb hle=>B10.out B a hb hle))
 go_wp2_with fail
 go_ret
 exact ⟨rfl,_,_,_,_,I10.out⟩
end Sha
end Go.Proofs.YtlhnegbjoncieaaGreatDoor
namespace Go.Proofs.YtlhnegbjoncieaaGreatDoor
namespace Sha
open Go.RowKit Mem
set_option maxRecDepth 100000
theorem isPlace16_any (z:Int) (w:World):Calls Tryz.prog 48 #[.int .i64 z] w fun e w'=>e=.returned (.bool (decide (0≤z∧z≤1)))∧w'=w:=by
 by_cases h1:0≤z
 ·by_cases h6:z≤1
  ·rw [decide_eq_true ⟨h1,h6⟩]
   go_enter Tryz.func48,Tryz.ntmps48
   go_wp2_with fail
   go_ret
   exact ⟨rfl,rfl⟩
  ·rw [decide_eq_false (fun h=>h6 h.2)]
   go_enter Tryz.func48,Tryz.ntmps48
   go_wp2_with fail
   go_ret
   exact ⟨rfl,rfl⟩
 ·rw [decide_eq_false (fun h=>h1 h.1)]
  go_enter Tryz.func48,Tryz.ntmps48
  go_wp2_with fail
  go_ret
  exact ⟨rfl,rfl⟩
theorem havePl_any (L:List RefV) (v:Value) (w:World) (hv:SlRf w v L) (hw:∀ r∈L,r.Wf) (hl:L.length≤1000):Calls Tryz.prog 87 #[v] w (VEnd (.bool (L.all plOk)) w):=by
 obtain ⟨a,c,rfl⟩:=hv.hd
 have hgw:=fun i=>getD_wf hw i
 have hno:∀ i,i < L.length→plOk (L.getD i zref)=false→L.all plOk=false:=fun i hi h=>by
  rw [List.all_eq_false]
  refine ⟨L.getD i zref,?_,by rw [h];decide⟩
  rw [List.getD_eq_getElem?_getD,List.getElem?_eq_getElem hi]
  exact List.getElem_mem hi
 have hyes:(∀ i,i < L.length→plOk (L.getD i zref)=true)→L.all plOk=true:=fun h=>by
  rw [List.all_eq_true]
  intro r hr
  obtain ⟨i,hi,e⟩:=List.mem_iff_getElem.1 hr
  have:=h i hi
  rw [List.getD_eq_getElem?_getD,List.getElem?_eq_getElem hi,Option.getD_some,e] at this
  exact this
 obtain ⟨Y,hY⟩:∃ Y,Y=L.all plOk:=⟨_,rfl⟩
 rw [←hY] at hno hyes ⊢
 obtain ⟨n,hn⟩:∃ n,n=L.length:=⟨_,rfl⟩
 rw [←hn] at hv hl hno hyes ⊢
 have ip:=fun i wx=>isPlace16_any (L.getD i zref).pl wx
 have HV:=zh hv;have GW:=zh hgw;have NO:=zh hno;have YES:=zh hyes;have HN:=zh hn;have IP:=zh ip
 clear hv hgw hno hyes hn ip hY hw
 go_enter Tryz.func87,Tryz.ntmps87
 go_wp2_with fail
 go_loopw [7] (fun vi wr=>∃ i:Nat,i≤n∧vi=.int .i64 (i:Int)∧(∀ k,k < i→plOk (L.getD k zref)=true)∧Below w.heap.size w wr) (fun vi _=>n - (intOf vi).toNat)
 case atStart=>exact ⟨0,by omega,rfl,fun k hk=>by omega,Below.refl _ _⟩
 case round=>
  obtain ⟨i,hi,rfl,hpl,hbw⟩:=hrel
  have BW:=zh hbw;have PL:=zh hpl;have VW:=zh (HV.out.below hbw)
  clear hpl hbw
  by_cases hlt:i < n
  ·have hlt2:(i:Int) < (n:Int):=by omega
   obtain ⟨b,o,ea,_,hr⟩:=slrf_at (i:=i) VW.out HN.out hlt
   subst ea
   have hwi:=GW.out i
   have hip:=IP.out i
   have hpd:plOk (L.getD i zref)=decide (0≤(L.getD i zref).pl∧(L.getD i zref).pl≤1):=rfl
   have hnoi:=NO.out i hlt
   obtain ⟨r,hr0⟩:∃ r,r=L.getD i zref:=⟨_,rfl⟩
   have PS:Hid (plOk r=true→∀ k,k < i+1→plOk (L.getD k zref)=true):=zh (fun h k hk=>by
    rcases Nat.lt_or_ge k i with x | x
    ·exact PL.out k x
    ·rw [show k=i by omega,←hr0];exact h)
   rw [←hr0] at hr hwi hip hpd hnoi
   have r0:=ref0 r
   obtain ⟨M,hM⟩:∃ M,M=refC r:=⟨_,rfl⟩
   have ms:M.size=34:=by rw [hM];exact refC_size hwi
   have mo:M.all (·.oneCell')=true:=by rw [hM];exact refC_one r
   have hx:=zeroRfP
   obtain ⟨Z,hZ⟩:∃ Z,Z=refC zref:=⟨_,rfl⟩
   have zsz:Z.size=34:=by rw [hZ];exact refC_size zref_wf
   have hrg:wr.rangeAt b (o+i*34) M.toList:=by rw [hM];exact hr
   rw [←hM] at r0
   rw [←hZ] at hx
   obtain ⟨pl,hpl⟩:∃ pl,pl=r.pl:=⟨_,rfl⟩
   rw [←hpl] at hip hpd r0
   have MS:=zh ms;have MO:=zh mo;have ZS:=zh zsz;have RG:=zh hrg;have R0:=zh r0;have IPI:=zh hip;have PD:=zh hpd;have NOI:=zh hnoi
   have B3:Hid (Below w.heap.size w (wr.alloc (.cells M 38))):=zh (BW.out.alloc BW.out.size _)
   have A3:=zh (at_new wr M 38)
   clear ms mo zsz hrg r0 hip hpd hnoi hwi hr hM hZ hpl hr0
   go_upto_region 4 with (first
    | (refine wpList_load_mid zr 38 _ zr b (o+i*34) zr M.toList _ RG.out Tryz.underlying38 zr (by rw [infoRfP,Array.length_toList,MS.out]) ?_;rw [Array.toArray_toList])
    | (refine wpList_store_new zr 38 _ _ zr zr M _ _ zr zr (by rw [MS.out];exact infoRfP) (by rw [MS.out,ZS.out]) MO.out ?_))
   clear hx
   obtain ⟨l,hl⟩:∃ l,l=wr.heap.size:=⟨_,rfl⟩
   rw [←hl] at A3 ⊢
   clear hl
   generalize (wr.alloc (.cells M 38))=w3 at *
   have c0:w3.cell? ⟨l,0,none⟩=some (.int .i64 pl):=(A3.out.cell 0).trans R0.out
   go_wp2_with fail
   refine (IPI.out _).mono ?_
   rintro e w4 ⟨rfl,rfl⟩
   rw [←PD.out]
   clear c0
   by_cases hy:plOk r=true
   ·have PS2:=zh (PS.out hy)
    rw [hy]
    go_wp2_with fail
    go_roundw
    case rel=>exact ⟨i+1,by omega,by go_num,PS2.out,B3.out⟩
    case measure=>simp [intOf];omega
   ·have hy:plOk r=false:=by cases h:plOk r with
     | true=>exact absurd h hy
     | false=>rfl
    have NOI2:=zh (NOI.out hy)
    rw [hy]
    go_wp2_with fail
    go_ret
    exact ⟨by rw [NOI2.out];rfl,B3.out⟩
  ·have hin:i=n:=by omega
   subst hin
   have HY:=zh (YES.out PL.out)
   have hge:¬ (i:Int) < (i:Int):=by omega
   go_wp2_with fail
   go_ret
   exact ⟨by rw [HY.out];rfl,BW.out⟩
theorem run_eqnil_rf (w:World) (a:Option Addr) (n c n' c':Nat):(binOp .eql 27 (.slice a n c) (.slice none n' c')).run Tryz.prog w=.ok (.bool a.isNone) w:=Lib.run_eql_slice_nil w _ _ a n c n' c' Tryz.underlying27
theorem slrf_rd {w:World} {a:Option Addr} {n c:Nat} {L:List RefV} (h:SlRf w (.slice a n c) L) (hw:∀ r∈L,r.Wf) (hn:n=L.length):RdR w 34 (.slice a n c) n (refCs L):=by
 have hl:=refCs_length L hw
 refine ⟨by rw [hl,hn],a,c,rfl,fun hne=>?_⟩
 obtain ⟨b,o,ea,_,_⟩:=slrf_at (i:=0) h hn (by omega)
 subst ea
 refine ⟨_,rfl,fun j u hu=>?_⟩
 have hj:j < L.length*34:=by rw [←hl];exact (List.getElem?_eq_some_iff.1 hu).1
 have hi:j / 34 < L.length:=by omega
 have g:=slrf_cell (i:=j / 34) h hn (by omega) (j % 34) u (by
  rw [←refCs_get L hw (j / 34) (j % 34) hi (by omega),show j / 34*34+j % 34=j by omega];exact hu)
 have e:o+j / 34*34+j % 34=o+j:=by omega
 rw [e] at g
 rw [Addr.add_mid];exact g
theorem refCs_one (L:List RefV):∀ u∈refCs L,u.oneCell'=true:=by
 intro u hu
 unfold refCs at hu
 obtain ⟨r,_,h⟩:=List.mem_flatMap.1 hu
 exact refL_one r u h
theorem slrf_none {w:World} {n c:Nat} {L:List RefV} (h:SlRf w (.slice none n c) L):L=[]:=by
 obtain ⟨a,cap,e,hr⟩:=h
 rcases L with _ | ⟨x,L⟩
 ·rfl
 ·injection e with e1 _ _
  obtain ⟨b,o,ea,_⟩:=hr (by simp)
  rw [←e1] at ea
  cases ea
theorem pcloneRf_any (L:List RefV) (v:Value) (w:World) (hv:SlRf w v L) (hw:∀ r∈L,r.Wf) (hl:L.length≤1000):Calls Tryz.prog 109 #[v] w fun e w'=>∃ v',e=.returned v'∧OwnRf w' w.heap.size 38 v' L∧Below w.heap.size w w':=by
 have q42:=run_eqnil_rf
 obtain ⟨a0,cap,rfl⟩:=hv.hd
 cases a0 with
 | none=>
  have hl0:=slrf_none hv
  subst hl0
  clear hv hw hl
  go_enter Tryz.func109,Tryz.ntmps109
  go_wp2
  go_ret
  exact ⟨_,rfl,World.ownsRow_nil _ _ _ _,Below.refl _ _⟩
 | some ad=>
  have hsl:SlRf (w.alloc (.cells #[] 38)) (.slice (some ad) L.length cap) L:=hv.below ((Below.refl _ _).alloc (Nat.le_refl _) _)
  have hb0:Below w.heap.size w (w.alloc (.cells #[] 38)):=(Below.refl _ _).alloc (Nat.le_refl _) _
  have how:(w.alloc (.cells #[] 38)).ownsRow w.heap.size 38 34 (.slice (some ⟨w.heap.size,0,none⟩) 0 0) 0 []:=own_none w w.heap.size (Nat.le_refl _)
  have hrd:=slrf_rd hsl hw rfl
  have ho1:=refCs_one L
  obtain ⟨m,hm⟩:∃ m,m=L.length:=⟨_,rfl⟩
  rw [←hm] at hrd hl ⊢
  have RD:=zh hrd;have HM:=zh hm;have HB:=zh hb0;have HO:=zh how;have O1:=zh ho1
  clear hv hm hsl hb0 how hrd ho1
  go_enter Tryz.func109,Tryz.ntmps109
  go_wp2_with (at_builtin;go_loud (refine wpList_append_app zr _ _ 27 zr (.slice (some ad) m cap) 0 m 34 (refCs L) (.agg (refC zref)) 48 elemRP (refC_size zref_wf) (by decide) zr HO.out zr RD.out O1.out (by omega) (by omega) HB.out.size ?_);intro v5 w5 ho5 ha5 hb5;have O5:=zh ho5;have B5:=zh (HB.out.trans hb5);clear ho5 ha5 hb5)
  go_ret
  refine ⟨_,rfl,?_,B5.out⟩
  have h:=O5.out
  rw [List.nil_append,Nat.zero_add,HM.out] at h
  exact h
theorem kidsZ_node {p i:Nat} (hi:p≤i) (hit:i < itn p):KZ p (i:Int)=kz p i (many p i):=by
 unfold KZ
 rw [if_pos ⟨by omega,by omega⟩,Int.toNat_natCast]
theorem pcontent_page (p i:Nat) (P:List (Lb8)) (R:List RefV) (v vr:Value) (w:World) (hs:Sls w v P) (hp:P.length=p) (_h1:p≤216) (hi:i < p):Calls Tryz.prog 80 #[.agg (psC p),.int .i64 (i:Int),v,vr] w (SealEnd w (pageI P R i) 0):=by
 have hy:pageI P R i=P.getD i []:=by unfold pageI;rw [if_pos (by omega)]
 rw [hy]
 have hs0:=hs
 obtain ⟨av,cv,rfl,_,_⟩:=hs0
 rw [hp] at hs ⊢
 obtain ⟨pb,po,vi,rfl,hpb,hcell,hsl⟩:=sls_at hs (i:=i) (by omega)
 obtain ⟨a1,c1,rfl⟩:=sl_inv hsl
 obtain ⟨x,hx⟩:∃ x,x=P.getD i []:=⟨_,rfl⟩
 rw [←hx] at hcell hsl ⊢
 obtain ⟨m,hm⟩:∃ m,m=x.length:=⟨_,rfl⟩
 rw [←hm] at hcell hsl
 have hb:=(Below.refl w.heap.size w).alloc (Nat.le_refl _) (.cells (psC p) 26)
 have hc1:(w.alloc (.cells (psC p) 26)).cell? ⟨pb,po+i,none⟩=some (.slice a1 m c1):=(hb.cell (p:=⟨pb,po+i,none⟩) hpb).trans hcell
 have hs2:=hsl.below hb
 have hlt:(i:Int) < (p:Int):=by omega
 have HB:=zh hb;have HS:=zh hs2
 clear hb hs2 hsl hcell hs hx hm hy hpb hp _h1
 go_enter Tryz.func80,Tryz.ntmps80
 go_upto_region 1 with fail
 generalize w.alloc (.cells (psC p) 26)=w1 at *
 go_wp2_with fail
 go_ret2
 exact ⟨_,rfl,HS.out,HB.out⟩
theorem pcontent_node (p i:Nat) (P:List (Lb8)) (R:List RefV) (v vr:Value) (w:World) (hs:Sls w v P) (hr:SlRf w vr R) (hwf:∀ r∈R,r.Wf) (hp:P.length=p) (h0:1≤p) (h1:p≤216) (hi:p≤i) (hit:i < itn p) (hR:R.length=i):Calls Tryz.prog 80 #[.agg (psC p),.int .i64 (i:Int),v,vr] w (SealEnd w (pageI P R i) (layN (kidR p R i)).2):=by
 have hy:pageI P R i=(layN (kidR p R i)).1:=by unfold pageI;rw [if_neg (by omega),hp]
 rw [hy]
 obtain ⟨hk1,hk2⟩:=node_kids p i h0 h1 hi hit
 have h6:=many_le p i
 have hlen:=kidR_length p R i (by omega)
 have hget:=fun t (ht:t < many p i)=>kidR_get p R i t ht
 have hkw:=kidR_wf p hwf i
 have kd:=fun wx=>pkids_any p (i:Int) wx h1
 rw [kidsZ_node hi hit] at kd
 have kl:=kz_length p i (many p i)
 have kg:=fun t (ht:t < many p i)=>kz_get p i (many p i) t ht
 obtain ⟨K,hK⟩:∃ K,K=kz p i (many p i):=⟨_,rfl⟩
 obtain ⟨L,hL⟩:∃ L,L=kidR p R i:=⟨_,rfl⟩
 rw [←hL] at hlen hget hkw ⊢
 rw [←hK] at kd kl kg
 have hts:=fun t (ht:t < L.length)=>refCs_take L t ht
 have hall:L.take L.length=L:=List.take_of_length_le (Nat.le_refl _)
 have hz:refCs (L.take 0)=[]:=by rw [List.take_zero];rfl
 have ly:=fun vx wx h=>play13_any L vx wx h hkw
 have hgw:=fun t=>getD_wf hkw t
 obtain ⟨f,hf⟩:∃ f,f=fst p i:=⟨_,rfl⟩
 obtain ⟨n,hn⟩:∃ n,n=many p i:=⟨_,rfl⟩
 rw [←hn] at hk1 hk2 h6 hlen hget kl kg
 rw [←hf] at hk2 hget kg
 obtain ⟨Y,hY⟩:∃ Y,Y=layN L:=⟨_,rfl⟩
 rw [←hY] at ly ⊢
 rw [hlen] at hts hall
 obtain ⟨av,cv,rfl,_,_⟩:=hs
 obtain ⟨ar,cr,rfl⟩:=hr.hd
 rw [hp]
 rw [hR] at hr ⊢
 have hb:=(Below.refl w.heap.size w).alloc (Nat.le_refl _) (.cells (psC p) 26)
 have ha:=at_new w (psC p) 26
 have cs:(psC p).size=1:=rfl
 obtain ⟨C,hC⟩:∃ C,C=psC p:=⟨_,rfl⟩
 rw [←hC] at kd hb ha cs ⊢
 have hnl:¬ (i:Int) < (p:Int):=by omega
 have KD:=zh kd;have KL:=zh kl;have KG:=zh kg;have LY:=zh ly;have TS:=zh hts;have ALL:=zh hall;have HZ:=zh hz;have GW:=zh hgw;have GT:=zh hget;have LN:=zh hlen;have KW:=zh hkw;have HB:=zh hb;have HA:=zh ha;have CS:=zh cs;have HR:=zh (hr.below hb);have HRL:=zh hR;have BS:=zh hb.size
 clear kd kl kg ly hts hall hz hgw hget hlen hkw hb ha cs hr hR hy hL hK hf hn hY hC hwf hp
 go_enter Tryz.func80,Tryz.ntmps80
 go_upto_region 1 with fail
 generalize w.alloc (.cells C 26)=w1 at *
 go_wp2_with (refine wpList_load_all zr 26 _ zr w.heap.size zr _ Tryz.underlying26 zr C _ HA.out (by rw [CS.out];exact infoPS) ?_)
 refine (KD.out _).mono ?_
 rintro e w2 ⟨vk,rfl,hk,hb2⟩
 obtain ⟨ak,ck,rfl⟩:=hk.hdn KL.out
 have HK:=zh hk;have B2:=zh (HB.out.trans (hb2.mono HB.out.size));have R2:=zh (HR.out.below hb2)
 clear hk hb2
 go_wp2_with fail
 go_loopw [10,25] (fun vo vi wr=>∃ t:Nat,t≤n∧vi=.int .i64 (t:Int)∧wr.ownsRow w2.heap.size 38 34 vo t (refCs (L.take t))∧Below w2.heap.size w2 wr) (fun _ vi _=>n - (intOf vi).toNat)
 case atStart=>exact ⟨0,by omega,rfl,by rw [HZ.out];exact World.ownsRow_nil _ _ _ _,Below.refl _ _⟩
 case round=>
  obtain ⟨t,ht,rfl,ho,hbw⟩:=hrel
  have OW:=zh ho;have BW:=zh hbw;have RW:=zh (R2.out.below hbw);have KW2:=zh (HK.out.below hbw)
  clear ho hbw
  by_cases hlt:t < n
  ·have hlt2:(t:Int) < (n:Int):=by omega
   obtain ⟨b,o,ea,_,hkc⟩:=sli_at (i:=t) KW2.out KL.out.symm hlt
   rw [KG.out t hlt] at hkc
   subst ea
   obtain ⟨q,hq⟩:∃ q,q=f+t:=⟨_,rfl⟩
   have hqi:q < i:=by omega
   obtain ⟨rb,ro,ea,_,hrr⟩:=slrf_at (i:=q) RW.out HRL.out.symm hqi
   subst ea
   have hgt:=GT.out t hlt
   rw [←hq] at hkc hgt
   rw [←hgt] at hrr
   have hwi:=GW.out t
   have hts:=TS.out t hlt
   obtain ⟨r,hr0⟩:∃ r,r=L.getD t zref:=⟨_,rfl⟩
   rw [←hr0] at hrr hwi hts
   have rbt:=built_rp r hwi
   have rdf:=fun wx=>rd_rf (w:=wx) (e:=38) hwi
   have rl:=refL_one r
   obtain ⟨M,hM⟩:∃ M,M=refC r:=⟨_,rfl⟩
   have ms:M.size=34:=by rw [hM];exact refC_size hwi
   have mo:M.all (·.oneCell')=true:=by rw [hM];exact refC_one r
   have hrg:∀ wx:World,wx.rangeAt rb (ro+q*34) (refL r)→wx.rangeAt rb (ro+q*34) M.toList:=fun wx h=>by rw [hM];exact h
   rw [←hM] at rbt rdf
   have MS:=zh ms;have MO:=zh mo;have RB:=zh rbt;have RDF:=zh rdf;have RLO:=zh rl;have RGM:=zh (hrg wr hrr);have HTS:=zh hts
   have B4:Hid (Below w2.heap.size w2 (wr.alloc (.cells M 38))):=zh (BW.out.alloc BW.out.size _)
   have O4:Hid ((wr.alloc (.cells M 38)).ownsRow w2.heap.size 38 34 u10 t (refCs (L.take t))):=zh (World.ownsRow.alloc OW.out _)
   clear hrr hwi hts hr0 rbt rdf rl hM ms mo hrg hgt hq
   go_wp2_with (first
    | (refine wpList_load_mid zr 38 _ zr rb (ro+q*34) zr M.toList _ RGM.out Tryz.underlying38 zr (by rw [infoRfP,Array.length_toList,MS.out]) ?_;rw [Array.toArray_toList])
    | ((refine Go.Great.wpList_buildSliceTo zr 27 38 1 _ zr _ zr _ zr Tryz.underlying27 M (by first | (simp [Act.eval,Act.put];exact RB.out) | (go_simp;exact RB.out) | (simp only [List.map_toArray,List.map_cons,List.map_nil];exact RB.out)) ?_))
    | (at_builtin;go_loud (refine wpList_append_app zr _ _ 27 zr (.slice (some ⟨wr.heap.size,0,none⟩) 1 1) t 1 34 (refL r) (.agg (refC zref)) 48 elemRP (refC_size zref_wf) (by decide) zr O4.out zr (RDF.out wr) RLO.out (by omega) (by omega) B4.out.size ?_);intro v5 w5 ho5 ha5 hb5;have O5:Hid (w5.ownsRow w2.heap.size 38 34 v5 (t+1) (refCs (L.take (t+1)))):=zh (by rw [HTS.out];exact ho5);have B5:=zh (B4.out.trans hb5);clear ho5 ha5 hb5))
   go_roundw
   case rel=>exact ⟨t+1,by omega,by go_num,O5.out,B5.out⟩
   case measure=>simp [intOf];omega
  ·have hin:t=n:=by omega
   subst hin
   have hge:¬ (t:Int) < (t:Int):=by omega
   have ho:=OW.out
   rw [ALL.out] at ho
   have hov:OwnRf wr w2.heap.size 38 u10 L:=by
    show wr.ownsRow _ _ _ _ L.length _
    rw [LN.out];exact ho
   have SV:=zh (own_slrf hov KW.out)
   clear hov
   clear ho OW
   go_wp2_with fail
   refine (LY.out _ _ SV.out).mono ?_
   rintro e w6 ⟨v6,rfl,hs6,hb6⟩
   have S6:=zh hs6;have B6:=zh ((B2.out.trans (BW.out.mono B2.out.size)).trans (hb6.mono (Nat.le_trans B2.out.size BW.out.size)))
   clear hs6 hb6
   go_wp2_with fail
   go_ret2
   exact ⟨_,rfl,S6.out,B6.out⟩
theorem MkI.out {w1 w w':World} {bp br:Nat} {vp vr:Value} {D:Foot} {ws:List (Nat × Value)} {L:List (Nat × Lb8)} {R:List RefV} (h:MkI w1 w bp br vp vr D ws L R) (hs:w.heap.size≤w'.heap.size) (hk:∀ k,w1.heap.size≤k→k < w.heap.size→w'.heap[k]?=w.heap[k]?):WPut (fun k=>w1.heap.size≤k) w' vp L:=
 ⟨ws,h.e.mono fun _ _ x=>⟨x.1,(x.2.keep hs fun k hd hl=>hk k (h.d k hd).1 hl).mono fun k hd _=>(h.d k hd).1⟩,(ownsRow_slR h.po).keep hs fun k hg hl=>hk k hg hl⟩
theorem buildRf14 (w:World):(Instr.build 38 #[]).run Tryz.prog w=.ok (.agg (refC zref)) w:=by kernel_rfl
def putL (key:Lb8) (ep:BitVec 32) (P:List (Lb8)) (n:Nat):List (Nat × Lb8):=(List.range n).map fun i=>(2+2*i,selT key ep P i)
theorem putL_succ (key:Lb8) (ep:BitVec 32) (P:List (Lb8)) (n:Nat):putL key ep P (n+1)=putL key ep P n++[(2+2*n,selT key ep P n)]:=by simp [putL,List.range_succ]
theorem putL_length (key:Lb8) (ep:BitVec 32) (P:List (Lb8)) (n:Nat):(putL key ep P n).length=n:=by simp [putL]
theorem makeT_no {key:Lb8} {ep:BitVec 32} {P:List (Lb8)} (h:¬ (1≤P.length∧P.length≤216∧allP P=true)):makeT key ep P=([],zref,1):=if_neg h
theorem pmake_bad (key:Lb8) (ep:BitVec 32) (P:List (Lb8)) (v:Value) (w:World) (lk:key.length=32) (hs:Sls w v P) (hl:∀ x∈P,x.length≤1000) (hn:P.length≤1000) (h:¬ (1≤P.length∧P.length≤216∧allP P=true)) :
 Calls Tryz.prog 43 #[.pointer none,.agg (u8s key).toArray,.int .u32 (V ep),v] w (MkEnd w ([],zref,1)):=by
 have ar:=fun wx (hb:Below w.heap.size w wx)=>arePages_any P v wx (hs.below hb) hl hn
 have hcs:(P.length < 1∨216 < P.length)∨(1≤P.length∧P.length≤216∧allP P=false):=by
  by_cases h1:1≤P.length∧P.length≤216
  ·refine .inr ⟨h1.1,h1.2,?_⟩
   cases e:allP P
   ·rfl
   ·exact absurd ⟨h1.1,h1.2,e⟩ h
  ·exact .inl (by omega)
 have nb:=fun wx (hz:P.length < 1∨216 < P.length)=>pnew_bad (P.length:Int) wx (by omega)
 have ng:=fun wx (h0:1≤P.length) (h1:P.length≤216)=>pnew_good P.length wx h0 h1
 have hsz:∀ p,(psC p).size=1:=fun _=>rfl
 have hso:=psC_one
 have kc:(u8s key).toArray.size=32:=by simp [u8s_length,lk]
 obtain ⟨KC,hKC⟩:∃ K,K=(u8s key).toArray:=⟨_,rfl⟩
 have hxr:=zeroRfP
 have hbr:=buildRf14
 unfold MkEnd
 show Calls _ _ _ _ (fun e w'=>∃ v,e=.returned (.tuple #[v,.agg (refC zref),.int .i64 1])∧WPut (fun k=>w.heap.size≤k) w' v []∧Below w.heap.size w w')
 obtain ⟨Z,hZ⟩:∃ Z,Z=refC zref:=⟨_,rfl⟩
 have zs:Z.size=34:=by rw [hZ];exact refC_size zref_wf
 have zo:Z.all (·.oneCell')=true:=by rw [hZ];exact refC_one zref
 have hx:=zeroPS
 obtain ⟨Y,hYs⟩:∃ C,C=psC 0:=⟨_,rfl⟩
 have ys:Y.size=1:=by rw [hYs];rfl
 obtain ⟨asx,cap,rfl,_,_⟩:=hs
 obtain ⟨n,hnn⟩:∃ n,n=P.length:=⟨_,rfl⟩
 obtain ⟨A,hA⟩:∃ A,A=allP P:=⟨_,rfl⟩
 rw [←hnn] at ar hcs nb ng ⊢
 rw [←hA] at ar hcs
 rw [←hZ] at hxr hbr ⊢
 rw [←hKC]
 have yo:Y.all (·.oneCell')=true:=by rw [hYs];exact psC_one 0
 rw [←hYs] at hx nb
 have az:At ((((w.alloc (.cells #[.pointer none] 101)).alloc (.cells KC 22)).alloc (.cells #[.int .u32 (V ep)] 36)).alloc (.cells Z 38)) (w.heap.size+1+1+1) Z 38:=by
  have h:=at_new (((w.alloc (.cells #[.pointer none] 101)).alloc (.cells KC 22)).alloc (.cells #[.int .u32 (V ep)] 36)) Z 38
  simpa using h
 have b4:Below w.heap.size w ((((w.alloc (.cells #[.pointer none] 101)).alloc (.cells KC 22)).alloc (.cells #[.int .u32 (V ep)] 36)).alloc (.cells Z 38)):=((((Below.refl _ _).alloc (Nat.le_refl _) _).alloc (by simp) _).alloc (by simp;omega) _).alloc (by simp;omega) _
 have AR:=zh ar;have NB:=zh nb;have NG:=zh ng;have ZS:=zh zs;have ZO:=zh zo;have YS:=zh ys;have YO:=zh yo;have BR:=zh hbr;have AZ:=zh az;have B4:=zh b4;have SZ:=zh hsz;have SO:=zh hso
 clear ar nb ng zs zo ys yo hbr az b4 hsz hso hZ hYs hnn hA hKC kc lk hl h
 rcases hcs with hbad | ⟨h0,h1,hal⟩
 ·have N2:=zh (fun wx=>NB.out wx hbad)
  have hc5:=fun w5=>at_new w5 Y 26
  clear hbad hn
  go_enter Tryz.func43,Tryz.ntmps43
  go_upto_region 1 with fail
  generalize (((w.alloc (.cells #[.pointer none] 101)).alloc (.cells KC 22)).alloc (.cells #[.int .u32 (V ep)] 36)).alloc (.cells Z 38)=w4 at *
  go_wp2_with fail
  refine (N2.out _).mono ?_
  rintro e w5 ⟨rfl,hb5⟩
  have B5:Hid (Below w.heap.size w (w5.alloc (.cells Y 26))):=zh ((B4.out.trans (hb5.mono B4.out.size)).alloc (Nat.le_trans B4.out.size hb5.size) _)
  have A5:=zh ((AZ.out.below hb5 AZ.out.lt).alloc (.cells Y 26))
  clear hb5
  go_upto_region 2 with (refine wpList_store_new zr 26 _ _ zr zr Y _ _ zr zr (by rw [YS.out];exact infoPS) zr YO.out ?_)
  clear hx hc5
  generalize (w5.alloc (.cells Y 26))=w6 at *
  go_wp2_with (first
   | (refine Mem.wpList_build zr 38 _ #[] (.agg Z) zr (by simp) BR.out ?_)
   | (refine wpList_store_all zr 38 _ _ zr zr (w.heap.size+1+1+1) Z zr zr (by rw [ZS.out];exact infoRfP) Z 38 A5.out zr ZO.out ?_))
  try simp only [Exit.inBlock,Exit.then]
  refine ret_tmp_row_tmp zr (w.heap.size+1+1+1) 38 Z _ _ _ zr zr zr (A5.out.row Z) Tryz.underlying38 zr (by rw [ZS.out];exact infoRfP) ?_
  exact ⟨_,rfl,⟨[],trivial,SlR.nil _ _ _⟩,below_row B5.out (by omega) Z⟩
 ·have N2:=zh (fun wx=>NG.out wx h0 h1)
  have cs:(psC n).size=1:=rfl
  have co:=psC_one n
  rw [hal] at AR
  obtain ⟨C,hC⟩:∃ C,C=psC n:=⟨_,rfl⟩
  rw [←hC] at N2 cs co
  have CS:=zh cs;have CO:=zh co
  clear h0 h1 hal cs co hC hn
  go_enter Tryz.func43,Tryz.ntmps43
  go_upto_region 1 with fail
  generalize (((w.alloc (.cells #[.pointer none] 101)).alloc (.cells KC 22)).alloc (.cells #[.int .u32 (V ep)] 36)).alloc (.cells Z 38)=w4 at *
  go_wp2_with fail
  refine (N2.out _).mono ?_
  rintro e w5 ⟨rfl,hb5⟩
  have B5:Hid (Below w.heap.size w (w5.alloc (.cells C 26))):=zh ((B4.out.trans (hb5.mono B4.out.size)).alloc (Nat.le_trans B4.out.size hb5.size) _)
  have A5:=zh ((AZ.out.below hb5 AZ.out.lt).alloc (.cells C 26))
  clear hb5
  go_upto_region 2 with (refine wpList_store_new zr 26 _ _ zr zr C _ _ zr zr (by rw [CS.out];exact infoPS) (by rw [CS.out,YS.out]) CO.out ?_)
  clear hx
  generalize (w5.alloc (.cells C 26))=w6 at *
  go_wp2_with fail
  refine (AR.out _ B5.out).mono ?_
  rintro e w7 ⟨rfl,rfl⟩
  go_wp2_with (first
   | (refine Mem.wpList_build zr 38 _ #[] (.agg Z) zr (by simp) BR.out ?_)
   | (refine wpList_store_all zr 38 _ _ zr zr (w.heap.size+1+1+1) Z zr zr (by rw [ZS.out];exact infoRfP) Z 38 A5.out zr ZO.out ?_))
  try simp only [Exit.inBlock,Exit.then]
  refine ret_tmp_row_tmp zr (w.heap.size+1+1+1) 38 Z _ _ _ zr zr zr (A5.out.row Z) Tryz.underlying38 zr (by rw [ZS.out];exact infoRfP) ?_
  exact ⟨_,rfl,⟨[],trivial,SlR.nil _ _ _⟩,below_row B5.out (by omega) Z⟩
theorem pmake_good (key:Lb8) (ep:BitVec 32) (P:List (Lb8)) (v:Value) (w:World) (hT:TT w) (lk:key.length=32) (hs:Sls w v P) (hP:GoodP P) :
 Calls Tryz.prog 43 #[.pointer none,.agg (u8s key).toArray,.int .u32 (V ep),v] w (MkEnd w (putsT key ep P,refT key ep P (itn P.length - 1),0)):=by
 have hp0:=hP.p0;have hp1:=hP.p1
 have hl:∀ x∈P,x.length≤1000:=fun x hx=>by rw [hP.len x hx];decide
 have hal:allP P=true:=by unfold allP;rw [List.all_eq_true];intro x hx;simp [hP.len x hx]
 have ar:=fun wx (hb:Below w.heap.size w wx)=>arePages_any P v wx (hs.below hb) hl (by omega)
 rw [hal] at ar
 have hit:=itn_big P.length hp0 hp1
 have ng:=fun wx=>pnew_good P.length wx hp0 hp1
 have itm:=fun wx=>pitems_any P.length wx hp1
 have rot:=fun wx=>proot_any P.length wx hp1
 have pget:∀ i,i < P.length→(P.getD i []).length=256:=fun i hi=>by
  rw [List.getD_eq_getElem?_getD,List.getElem?_eq_getElem hi]
  exact hP.len _ (List.getElem_mem hi)
 have hpg:=fun i (hi:i < itn P.length)=>pgT_length (key:=key) (ep:=ep) hP i hi
 have hct:∀ (i:Nat) vr wx,i < itn P.length→Below w.heap.size w wx→SlRf wx vr (refsT key ep P i)→Calls Tryz.prog 80 #[.agg (psC P.length),.int .i64 (i:Int),v,vr] wx (SealEnd wx (pgT key ep P i) 0):=fun i vr wx hi hb hr=>by
  by_cases h:i < P.length
  ·exact pcontent_page P.length i P _ v vr wx (hs.below hb) rfl hp1 h
  ·have g:=pcontent_node P.length i P _ v vr wx (hs.below hb) hr (refsT_wf i) rfl hp0 hp1 (by omega) hi (refsT_length key ep P i)
   rw [node_lay hP i i (by omega) hi (Nat.le_refl _)] at g
   exact g
 have hput:∀ (i:Nat) (w1 wx:World) (bb bk be bs bp br:Nat) (vp vr vg:Value) (D:Foot) (ws:List (Nat × Value)),i < itn P.length→Below w.heap.size w w1→MkI w1 wx bp br vp vr D ws (putL key ep P i) (refsT key ep P i)→At w1 bb #[.pointer none] 101→At w1 bk (u8s key).toArray 22→At w1 be #[.int .u32 (V ep)] 36→At w1 bs (psC P.length) 26 →
  Sl wx vg (pgT key ep P i)→Calls Tryz.prog 78 #[.int .i64 (i:Int),vg,.pointer (some ⟨bs,0,none⟩),.pointer (some ⟨bb,0,none⟩),.pointer (some ⟨bk,0,none⟩),.pointer (some ⟨be,0,none⟩),.pointer (some ⟨bp,0,none⟩),.pointer (some ⟨br,0,none⟩)] wx
   fun e w'=>e=.returned (.int .i64 0)∧∃ vp' vr' D' ws',MkI w1 w' bp br vp' vr' D' ws' (putL key ep P (i+1)) (refsT key ep P (i+1)):=fun i w1 wx bb bk be bs bp br vp vr vg D ws hi hb hI h1 h2 h3 h4 hv=>by
  have g:=pput_any key (pgT key ep P i) vg lk (hT.below hb) hp1 hi hI h1 h2 h3 h4 hv (hpg i hi) (by rw [putL_length];omega) (by rw [refsT_length];omega)
  rw [putL_succ,refsT_succ]
  exact g
 have hr0:=refsT_length key ep P
 have hrg:=fun n i (h:i < n)=>refsT_get key ep P n i h
 have hrw:=fun n=>refsT_wf (key:=key) (ep:=ep) (P:=P) n
 have hend:putL key ep P (itn P.length)=putsT key ep P:=rfl
 have hrl:=refT_wf (key:=key) (ep:=ep) (P:=P) (itn P.length - 1)
 obtain ⟨root,hroot⟩:∃ r,r=refT key ep P (itn P.length - 1):=⟨_,rfl⟩
 have hlast:(refsT key ep P (itn P.length)).getD (itn P.length - 1) zref=root:=by rw [hroot];exact hrg _ _ (by omega)
 rw [←hroot] at hrl ⊢
 obtain ⟨PL,hPL⟩:∃ f,f=putL key ep P:=⟨_,rfl⟩
 obtain ⟨RF,hRF⟩:∃ f,f=refsT key ep P:=⟨_,rfl⟩
 have hz1:PL 0=[]:=by rw [hPL];rfl
 have hz2:RF 0=[]:=by rw [hRF];rfl
 have hpn:∀ i,(PL i).length=i:=fun i=>by rw [hPL];exact putL_length _ _ _ _
 rw [←hPL] at hput hend
 rw [←hRF] at hput hct hr0 hrw hlast
 obtain ⟨PG,hPG⟩:∃ f,f=pgT key ep P:=⟨_,rfl⟩
 rw [←hPG] at hput hct
 unfold MkEnd
 show Calls _ _ _ _ (fun e w'=>∃ v,e=.returned (.tuple #[v,.agg (refC root),.int .i64 0])∧WPut (fun k=>w.heap.size≤k) w' v (putsT key ep P)∧Below w.heap.size w w')
 rw [←hend]
 obtain ⟨asx,cap,rfl,_,_⟩:=hs
 obtain ⟨p,hp⟩:∃ p,p=P.length:=⟨_,rfl⟩
 rw [←hp] at ar hit ng itm rot hct hput hlast ⊢
 obtain ⟨m,hm⟩:∃ m,m=itn p:=⟨_,rfl⟩
 rw [←hm] at hit itm rot hct hput hlast ⊢
 have hro:(m:Int) - 1=((m - 1:Nat):Int):=by omega
 rw [hro] at rot
 have kc:(u8s key).toArray.size=32:=by simp [u8s_length,lk]
 obtain ⟨KC,hKC⟩:∃ K,K=(u8s key).toArray:=⟨_,rfl⟩
 rw [←hKC] at hput kc ⊢
 have cs:(psC p).size=1:=rfl
 have co:=psC_one p
 obtain ⟨C,hC⟩:∃ C,C=psC p:=⟨_,rfl⟩
 rw [←hC] at ng itm rot hct hput cs co
 have ms:=refC_size hrl;have mo:=refC_one root
 obtain ⟨M,hM⟩:∃ M,M=refC root:=⟨_,rfl⟩
 have hrm:refL root=M.toList:=by rw [hM];rfl
 rw [←hM] at ms mo ⊢
 have hxr:=zeroRfP
 obtain ⟨Z,hZ⟩:∃ Z,Z=refC zref:=⟨_,rfl⟩
 have zs:Z.size=34:=by rw [hZ];exact refC_size zref_wf
 rw [←hZ] at hxr
 have hx:=zeroPS
 obtain ⟨Y,hYs⟩:∃ C,C=psC 0:=⟨_,rfl⟩
 have ys:Y.size=1:=by rw [hYs];rfl
 rw [←hYs] at hx
 obtain ⟨i1,hi1,hz1',hs1,hb1⟩:=info_parts elemPt.2
 obtain ⟨i2,hi2,hz2',hs2,hb2⟩:=info_parts elemRP.2
 have a0:At ((((w.alloc (.cells #[.pointer none] 101)).alloc (.cells KC 22)).alloc (.cells #[.int .u32 (V ep)] 36)).alloc (.cells Z 38)) w.heap.size #[.pointer none] 101:=(((at_new w _ _).alloc _).alloc _).alloc _
 have a1:At ((((w.alloc (.cells #[.pointer none] 101)).alloc (.cells KC 22)).alloc (.cells #[.int .u32 (V ep)] 36)).alloc (.cells Z 38)) (w.heap.size+1) KC 22:=by
  have h:=((at_new (w.alloc (.cells #[.pointer none] 101)) KC 22).alloc (.cells #[.int .u32 (V ep)] 36)).alloc (.cells Z 38)
  simpa using h
 have a2:At ((((w.alloc (.cells #[.pointer none] 101)).alloc (.cells KC 22)).alloc (.cells #[.int .u32 (V ep)] 36)).alloc (.cells Z 38)) (w.heap.size+1+1) #[.int .u32 (V ep)] 36:=by
  have h:=(at_new ((w.alloc (.cells #[.pointer none] 101)).alloc (.cells KC 22)) #[.int .u32 (V ep)] 36).alloc (.cells Z 38)
  simpa using h
 have az:At ((((w.alloc (.cells #[.pointer none] 101)).alloc (.cells KC 22)).alloc (.cells #[.int .u32 (V ep)] 36)).alloc (.cells Z 38)) (w.heap.size+1+1+1) Z 38:=by
  have h:=at_new (((w.alloc (.cells #[.pointer none] 101)).alloc (.cells KC 22)).alloc (.cells #[.int .u32 (V ep)] 36)) Z 38
  simpa using h
 have b4:Below w.heap.size w ((((w.alloc (.cells #[.pointer none] 101)).alloc (.cells KC 22)).alloc (.cells #[.int .u32 (V ep)] 36)).alloc (.cells Z 38)):=((((Below.refl _ _).alloc (Nat.le_refl _) _).alloc (by simp) _).alloc (by simp;omega) _).alloc (by simp;omega) _
 have hmf:∀ (fn:Fn) (first cap:Array Value) (w:World),(Instr.makeFunc fn first cap).run Tryz.prog w=.ok (.func fn first cap) w:=fun _ _ _ _=>rfl
 have AR:=zh ar;have NG:=zh ng;have IT:=zh itm;have RT:=zh rot;have CT:=zh hct;have PT:=zh hput;have RL:=zh hr0;have RW:=zh hrw;have HL:=zh hlast;have PZ1:=zh hz1;have RZ1:=zh hz2;have PN:=zh hpn;have KS:=zh kc;have CS:=zh cs;have CO:=zh co;have MS:=zh ms;have MO:=zh mo;have HM:=zh hrm;have ZS:=zh zs;have YS:=zh ys
 have I1:=zh hi1;have Z1:=zh hz1';have S1:=zh hs1;have B1:=zh hb1;have I2:=zh hi2;have Z2:=zh hz2';have S2:=zh hs2;have B2:=zh hb2
 have A0:=zh a0;have A1:=zh a1;have A2:=zh a2;have AZ:=zh az;have B4:=zh b4
 clear ar ng itm rot hct hput hr0 hrw hlast hz1 hz2 hpn kc cs co ms mo hrm zs ys hi1 hz1' hs1 hb1 hi2 hz2' hs2 hb2 a0 a1 a2 az b4 hPL hRF hPG hKC hC hM hZ hYs hm hp hroot hend hrg hpg pget hal hl hT lk hP hp0 hro hrl
 go_enter Tryz.func43,Tryz.ntmps43
 go_upto_region 1 with fail
 generalize (((w.alloc (.cells #[.pointer none] 101)).alloc (.cells KC 22)).alloc (.cells #[.int .u32 (V ep)] 36)).alloc (.cells Z 38)=w4 at *
 go_wp2_with fail
 refine (NG.out _).mono ?_
 rintro e w5 ⟨rfl,hb5⟩
 have B5:Hid (Below w.heap.size w (w5.alloc (.cells C 26))):=zh ((B4.out.trans (hb5.mono B4.out.size)).alloc (Nat.le_trans B4.out.size hb5.size) _)
 have A05:=zh ((A0.out.below hb5 A0.out.lt).alloc (.cells C 26));have A15:=zh ((A1.out.below hb5 A1.out.lt).alloc (.cells C 26));have A25:=zh ((A2.out.below hb5 A2.out.lt).alloc (.cells C 26));have AZ5:=zh ((AZ.out.below hb5 AZ.out.lt).alloc (.cells C 26))
 have C5:=zh (at_new w5 C 26)
 clear hb5
 go_upto_region 2 with (refine wpList_store_new zr 26 _ _ zr zr C _ _ zr zr (by rw [CS.out];exact infoPS) (by rw [CS.out,YS.out]) CO.out ?_)
 clear hx A0 A1 A2 AZ B4
 obtain ⟨bs,hbs⟩:∃ bs,bs=w5.heap.size:=⟨_,rfl⟩
 rw [←hbs] at C5 ⊢
 clear hbs
 generalize (w5.alloc (.cells C 26))=w6 at *
 go_wp2_with fail
 refine (AR.out _ B5.out).mono ?_
 rintro e w7 ⟨rfl,rfl⟩
 go_wp2_with (refine wpList_load_all zr 26 _ zr bs zr _ Tryz.underlying26 zr C _ C5.out (by rw [CS.out];exact infoPS) ?_)
 refine (IT.out _).mono ?_
 rintro e w8 ⟨rfl,hb8⟩
 have B8:=zh hb8
 have C8:=zh (C5.out.below hb8 C5.out.lt)
 clear hb8
 go_upto_region 5 with (first
  | (refine wpList_make_own _ zr _ _ 40 zr w7.heap.size 49 i1 (.agg #[.int .i64 0,.slice none 0 0]) 2 Tryz.underlying40 I1.out Z1.out S1.out .i64 .i64 (m:Int) m zr zr rfl (by rw [B1.out];omega) (by simp [maxLen];omega) B8.out.size ?_;intro w9 ho9 hg9;have O9:=zh ho9;have B9:Hid (Below w7.heap.size w7 w9):=zh (B8.out.grown hg9 B8.out.size (fun k e=>by cases e));clear ho9 hg9)
  | (refine Mem.wpList_store_one zr 40 _ _ zr zr w9.heap.size 0 (.slice (some ⟨w8.heap.size,0,none⟩) 0 m) zr zr zr infoPts _ 40 (at_new w9 #[.slice none 0 0] 40) (by simp) ?_;intro w10 ha10 ho10 hb10;have P10:Hid (At w10 w9.heap.size #[.slice (some ⟨w8.heap.size,0,none⟩) 0 m] 40):=zh ha10;have O10:Hid (w10.ownsRow w7.heap.size 49 2 (.slice (some ⟨w8.heap.size,0,none⟩) 0 m) 0 []):=zh (ownsRow_keep (World.ownsRow.alloc O9.out (.cells #[.slice none 0 0] 40)) fun g hg=>ho10 g (by have:=(World.ownsRow.lt O9.out g hg).2;omega));have B10:Hid (Below w7.heap.size w7 w10):=zh (hb10 _ _ (B9.out.alloc B9.out.size _) B9.out.size);clear ha10 ho10 hb10))
 have G9:=zh B9.out.size
 obtain ⟨bp,hbp⟩:∃ bp,bp=w9.heap.size:=⟨_,rfl⟩
 rw [←hbp] at P10 G9 ⊢
 clear hbp
 obtain ⟨VP,hVP⟩:∃ V,V=Value.slice (some ⟨w8.heap.size,0,none⟩) 0 m:=⟨_,rfl⟩
 rw [←hVP] at P10 O10
 have C10:=zh (C5.out.below B10.out C5.out.lt)
 clear hVP O9 B9 C8 B8
 go_wp2_with (refine wpList_load_all zr 26 _ zr bs zr _ Tryz.underlying26 zr C _ C10.out (by rw [CS.out];exact infoPS) ?_)
 refine (IT.out _).mono ?_
 rintro e w11 ⟨rfl,hb11⟩
 have P11:=zh (P10.out.below hb11 P10.out.lt);have O11:=zh (ownsRow_below O10.out hb11);have B11:Hid (Below w7.heap.size w7 w11):=zh (B10.out.trans (hb11.mono B10.out.size))
 clear hb11 P10 O10 B10 C10
 go_upto_region 6 with (first
  | (refine wpList_make_own _ zr _ _ 27 zr w7.heap.size 38 i2 (.agg (refC zref)) 34 Tryz.underlying27 I2.out Z2.out S2.out .i64 .i64 (m:Int) m zr zr rfl (by rw [B2.out];omega) (by simp [maxLen];omega) B11.out.size ?_;intro w12 ho12 hg12;have O12:=zh ho12;have B12:Hid (Below w7.heap.size w7 w12):=zh (B11.out.grown hg12 B11.out.size (fun k e=>by cases e));have Q12:Hid (Below w11.heap.size w11 w12):=zh ((Below.refl _ _).grown hg12 (Nat.le_refl _) (fun k e=>by cases e));clear ho12 hg12)
  | (refine Mem.wpList_store_one zr 27 _ _ zr zr w12.heap.size 0 (.slice (some ⟨w11.heap.size,0,none⟩) 0 m) zr zr zr infoRfs _ 27 (at_new w12 #[.slice none 0 0] 27) (by simp) ?_;intro w13 ha13 ho13 hb13;have R13:Hid (At w13 w12.heap.size #[.slice (some ⟨w11.heap.size,0,none⟩) 0 m] 27):=zh ha13;have O13:Hid (w13.ownsRow w7.heap.size 38 34 (.slice (some ⟨w11.heap.size,0,none⟩) 0 m) 0 []):=zh (ownsRow_keep (World.ownsRow.alloc O12.out (.cells #[.slice none 0 0] 27)) fun g hg=>ho13 g (by have:=(World.ownsRow.lt O12.out g hg).2;omega));have B13:Hid (Below w7.heap.size w7 w13):=zh (hb13 _ _ (B12.out.alloc B12.out.size _) B12.out.size);have Q13:Hid (Below w11.heap.size w11 w13):=zh (hb13 _ _ (Q12.out.alloc Q12.out.size _) Q12.out.size);clear ha13 ho13 hb13))
 have G12:=zh B12.out.size
 obtain ⟨br,hbr⟩:∃ br,br=w12.heap.size:=⟨_,rfl⟩
 rw [←hbr] at R13 G12 ⊢
 clear hbr
 obtain ⟨VR,hVR⟩:∃ V,V=Value.slice (some ⟨w11.heap.size,0,none⟩) 0 m:=⟨_,rfl⟩
 rw [←hVR] at R13 O13
 have J13:Hid (MkI w7 w13 bp br VP VR (fun _=>False) [] (PL 0) (RF 0)):=zh (by
  rw [PZ1.out,RZ1.out]
  exact ⟨B13.out,G9.out,G12.out,P11.out.below Q13.out P11.out.lt,R13.out,trivial,ownsRow_below O11.out Q13.out,O13.out,fun k hk=>hk.elim⟩)
 have C13:=zh (C5.out.below B13.out C5.out.lt)
 clear hVR O12 B12 Q12 Q13 R13 O13 P11 O11 B11 G9 G12
 go_wp2_with (refine wpList_load_all zr 26 _ zr bs zr _ Tryz.underlying26 zr C _ C13.out (by rw [CS.out];exact infoPS) ?_)
 refine (IT.out _).mono ?_
 rintro e w14 ⟨rfl,hb14⟩
 have J14:=zh (J13.out.below hb14)
 clear hb14 J13 C13 B13
 go_wp2_with fail
 go_loopw [42] (fun vi wr=>∃ i:Nat,i≤m∧vi=.int .i64 (i:Int)∧∃ vp vr D ws,MkI w7 wr bp br vp vr D ws (PL i) (RF i)) (fun vi _=>m - (intOf vi).toNat)
 case atStart=>exact ⟨0,by omega,rfl,_,_,_,_,J14.out⟩
 case round=>
  obtain ⟨i,hi,rfl,vp,vr,D,ws,hI⟩:=hrel
  have IW:=zh hI
  have CW:=zh (C5.out.below hI.b C5.out.lt)
  have BW:Hid (Below w.heap.size w wr):=zh (B5.out.trans (hI.b.mono B5.out.size))
  have hown:OwnRf wr w7.heap.size 38 vr (RF i):=hI.ro
  have SW:=zh (own_slrf hown (RW.out i))
  obtain ⟨ar,cr,rfl⟩:=rows_hd hI.ro
  obtain ⟨ap,cp,rfl⟩:=rows_hd hI.po
  have cr0:=(hI.rb.cell 0).trans rfl
  have cp0:=(hI.pb.cell 0).trans rfl
  clear hI hown
  by_cases hlt:i < m
  ·have hlt2:(i:Int) < (m:Int):=by omega
   have CR:=zh cr0
   clear cr0 cp0
   obtain ⟨N,hN⟩:∃ N,N=(RF i).length:=⟨_,rfl⟩
   rw [←hN] at CR SW IW
   clear hN
   have cr0:=CR.out
   go_wp2_with (refine wpList_load_all zr 26 _ zr bs zr _ Tryz.underlying26 zr C _ CW.out (by rw [CS.out];exact infoPS) ?_)
   refine (CT.out i _ wr hlt BW.out SW.out).mono ?_
   rintro e w15 ⟨vg,rfl,hg,hb15⟩
   have G15:=zh hg;have I15:=zh (IW.out.below hb15)
   clear hg hb15 cr0 CR
   go_wp2_with fail
   refine (PT.out i w7 w15 w.heap.size (w.heap.size+1) (w.heap.size+1+1) bs bp br _ _ vg D ws hlt B5.out I15.out A05.out A15.out A25.out C5.out G15.out).mono ?_
   rintro e w16 ⟨rfl,vp',vr',D',ws',hI'⟩
   have I16:=zh hI'
   clear hI'
   go_wp2_with fail
   go_roundw
   case rel=>exact ⟨i+1,by omega,by go_num,vp',vr',D',ws',I16.out⟩
   case measure=>simp [intOf];omega
  ·have him:i=m:=by omega
   subst him
   have hge:¬ (i:Int) < (i:Int):=by omega
   clear hlt
   obtain ⟨rg,ro,ea,hrgl,hrr⟩:=slrf_at (i:=i - 1) SW.out rfl (by rw [RL.out];omega)
   rw [HL.out,HM.out] at hrr
   subst ea
   have hN:=RL.out i
   have hrge:w7.heap.size≤rg:=(World.ownsRow.lt IW.out.ro rg rfl).1
   have cr1:wr.cell? ⟨br,0,none⟩=some (.slice (some ⟨rg,ro,none⟩) i cr):=by rw [←hN];exact cr0
   obtain ⟨q,hq⟩:∃ q,q=(PL i).length:=⟨_,rfl⟩
   rw [←hq] at cp0 IW
   have ne1:w.heap.size+1+1+1≠bs:=at_ne AZ5.out C5.out (by decide)
   have nz:=AZ5.out.lt
   have hbs:=C5.out.lt
   have gp:=IW.out.gp;have gr:=IW.out.gr
   have AZW:=zh (AZ5.out.below IW.out.b AZ5.out.lt)
   have S0:Hid (wr.drew.cell? ⟨bp,0,none⟩=some (.slice ap q cp)∧wr.drew.cell? ⟨br,0,none⟩=some (.slice (some ⟨rg,ro,none⟩) i cr)∧At wr.drew bs C 26∧wr.drew.rangeAt rg (ro+(i - 1)*34) M.toList):=zh ⟨cp0,cr1,CW.out.drew,fun j u hu=>hrr j u hu⟩
   have S1:Hid (∀ y,Below wr.heap.size wr y→y.cell? ⟨bp,0,none⟩=some (.slice ap q cp)∧y.cell? ⟨br,0,none⟩=some (.slice (some ⟨rg,ro,none⟩) i cr)∧At y bs C 26∧y.rangeAt rg (ro+(i - 1)*34) M.toList):=zh fun y hb=>
    ⟨(hb.cell (p:=⟨bp,0,none⟩) IW.out.pb.lt).trans cp0,(hb.cell (p:=⟨br,0,none⟩) IW.out.rb.lt).trans cr1,CW.out.below hb CW.out.lt,range_block hrr (hb.block rg hrgl)⟩
   have LP:=zh IW.out.pb.lt;have LR:=zh IW.out.rb.lt;have LG:=zh hrgl;have LC:=zh CW.out.lt
   have NE:Hid (w.heap.size+1+1+1≠bs∧w.heap.size+1+1+1 < w7.heap.size∧w7.heap.size≤bp∧w7.heap.size≤br∧w7.heap.size≤rg):=zh ⟨ne1,nz,gp,gr,hrge⟩
   clear cp0 cr0 cr1 hrr hrge hq hrgl ne1 nz hbs gp gr hN SW
   go_upto_region 16 with fail
   refine wp_region_plan_in (fun y=>y.cell? ⟨bp,0,none⟩=some (.slice ap q cp)∧y.cell? ⟨br,0,none⟩=some (.slice (some ⟨rg,ro,none⟩) i cr)∧At y bs C 26∧y.rangeAt rg (ro+(i - 1)*34) M.toList) (.take 0 (.take 1 (.take 2 (.sole 3 (.take 4 (.take 5 (.take 6 (.sole 7 (.take 8 .done))))))))) (by kernel_rfl) (by kernel_rfl) (by kernel_rfl) S0.out ?_
   refine plan_cell 40 _ _ (.slice ap q cp) _ zr zr zr ze (fun w' hw'=>hw'.1) Tryz.underlying40 zr ?_
   (simp only [Mem.zp,Mem.pb,Mem.pc])
   refine plan_cell 27 _ _ (.slice (some ⟨rg,ro,none⟩) i cr) _ zr zr zr ze (fun w' hw'=>hw'.2.1) Tryz.underlying27 zr ?_
   (simp only [Mem.zp,Mem.pb,Mem.pc])
   refine plan_row 26 _ bs _ C 26 zr zr zr ze (fun w' hw'=>hw'.2.2.1) Tryz.underlying26 zr (by rw [CS.out];exact infoPS) ?_
   (simp only [Mem.zp,Mem.pb,Mem.pc])
   refine plan_call 58 _ _ _ (by kernel_rfl) zr zr zr (by first | exact Mem.ev_none _ | (simp only [List.map_toArray,List.map_cons,List.map_nil,Mem.ev_tmp,List.getD_cons_succ,List.getD_cons_zero] <;> rfl)) ?_
   refine (RT.out wr.drew).mono ?_
   rintro e w15 ⟨rfl,hb15⟩
   have Q15:Hid (Below wr.heap.size wr w15):=zh (((Below.refl _ _).drew).trans (hb15.mono (Nat.le_refl _)))
   clear hb15
   refine ⟨_,rfl,S1.out _ Q15.out,?_⟩
   (simp only [Mem.zp,Mem.pb,Mem.pc])
   refine plan_index_z 27 38 _ _ rg ro i cr 34 (i - 1) zr zr zr ze ze (by omega) Tryz.underlying27 infoRfP ?_
   (simp only [Mem.zp,Mem.pb,Mem.pc])
   refine plan_load_range 38 _ rg (ro+(i - 1)*34) _ M zr zr zr ze (fun w' hw'=>hw'.2.2.2) Tryz.underlying38 zr (by rw [MS.out];exact infoRfP) ?_
   (simp only [Mem.zp,Mem.pb,Mem.pc])
   (first | refine Mem.pm1 ?_ | refine Mem.pm2 ?_ | refine Mem.pt ?_ | refine Mem.pf ?_)
   (simp only [Mem.zp,Mem.pb,Mem.pc])
   have AZ15:=zh (AZW.out.below Q15.out AZW.out.lt)
   have S15:=zh (S1.out _ Q15.out)
   obtain ⟨n1,n2,n3,n4,n5⟩:=NE.out
   have hother:∀ k,k≠w.heap.size+1+1+1→(w15.setRow (w.heap.size+1+1+1) M).heap[k]?=w15.heap[k]?:=fun k hne=>setRow_other w15 (w.heap.size+1+1+1) k M hne
   refine plan_store 38 _ _ (w.heap.size+1+1+1) M Z 38 zr zr zr zr ze ze (by rw [MS.out];exact infoRfP) AZ15.out (by rw [MS.out,ZS.out]) MO.out ⟨(World.cell?_of_block (a:=⟨bp,0,none⟩) (hother bp (by omega))).trans S15.out.1,(World.cell?_of_block (a:=⟨br,0,none⟩) (hother br (by omega))).trans S15.out.2.1,S15.out.2.2.1.row_other M (fun e=>n1 e.symm),range_block S15.out.2.2.2 (hother rg (by omega))⟩ ?_
   (first | refine Mem.pm1 ?_ | refine Mem.pm2 ?_ | refine Mem.pt ?_ | refine Mem.pf ?_)
   (simp only [Mem.zp,Mem.pb,Mem.pc])
   refine plan_nil ?_
   have WP:Hid (WPut (fun k=>w7.heap.size≤k) (w15.setRow (w.heap.size+1+1+1) M) (.slice ap q cp) (PL i)):=zh (MkI.out IW.out (by have:=Q15.out.size;simpa using this) fun k hk hl=>by rw [hother k (by omega)];exact Q15.out.block k hl)
   have BE:Hid (Below w.heap.size w (w15.setRow (w.heap.size+1+1+1) M)):=zh (below_row (BW.out.trans (Q15.out.mono BW.out.size)) (by omega) M)
   have hsz:=B5.out.size
   go_wp2_with fail
   try simp only [Exit.inBlock,Exit.then]
   refine ret_tmp_row_tmp zr (w.heap.size+1+1+1) 38 M _ _ _ zr zr zr (AZ15.out.row M) Tryz.underlying38 zr (by rw [MS.out];exact infoRfP) ?_
   exact ⟨_,rfl,WP.out.mono fun k hk _=>Nat.le_trans hsz hk,BE.out⟩
theorem pmake14_any (key:Lb8) (ep:BitVec 32) (P:List (Lb8)) (v:Value) (w:World) (hT:TT w) (lk:key.length=32) (hs:Sls w v P) (hn:P.length≤1000) (hl:∀ x∈P,x.length≤1000) :
 Calls Tryz.prog 43 #[.pointer none,.agg (u8s key).toArray,.int .u32 (V ep),v] w (MkEnd w (makeT key ep P)):=by
 by_cases h:1≤P.length∧P.length≤216∧allP P=true
 ·have hP:GoodP P:=⟨h.1,h.2.1,fun x hx=>by
   have g:=List.all_eq_true.1 h.2.2 x hx
   simpa using g⟩
  rw [makeT_ok key ep hP]
  exact pmake_good key ep P v w hT lk hs hP
 ·rw [makeT_no h]
  exact pmake_bad key ep P v w lk hs hl hn h
theorem made_refs (n:Nat):(madeCells (Value.agg (refC zref)).cells (n*34)).toList=refCs (List.replicate n zref):=by
 have hw:∀ r∈List.replicate n zref,r.Wf:=fun r hr=>by rw [List.eq_of_mem_replicate hr];exact zref_wf
 have hz:(Value.agg (refC zref)).cells=refC zref:=rfl
 have hs:(refC zref).size=34:=refC_size zref_wf
 rw [hz]
 apply List.ext_getElem?
 intro i
 by_cases hi:i < n*34
 ·have h1:i / 34 < n:=by omega
  have e:i=i / 34*34+i % 34:=by omega
  have h2:=refCs_get (List.replicate n zref) hw (i / 34) (i % 34) (by simpa using h1) (by omega)
  rw [←e] at h2
  rw [h2,List.getD_eq_getElem?_getD,List.getElem?_replicate,if_pos h1,Option.getD_some]
  have hr:refL zref=(refC zref).toList:=rfl
  rw [hr,Array.getElem?_toList,Array.getElem?_toList]
  unfold madeCells
  rw [Array.getElem?_map,Array.getElem?_range,if_pos hi,Option.map_some,hs]
  have hlt:i % 34 < (refC zref).size:=by omega
  rw [Array.getElem?_eq_getElem hlt,getElem!_pos (refC zref) (i % 34) hlt]
 ·rw [List.getElem?_eq_none (by rw [Array.length_toList,size_madeCells];omega),List.getElem?_eq_none (by rw [refCs_length _ hw,List.length_replicate];omega)]
theorem made_none (n:Nat):(madeCells (Value.slice none 0 0).cells (n*1)).toList=List.replicate n (.slice none 0 0):=by
 rw [Nat.mul_one]
 exact toList_madeCells_one _ n
theorem each_none (D:Foot) (w:World):∀ n,Each2 (fun p q=>SlB D w p q) (List.replicate n (.slice none 0 0)) (List.replicate n [])
 | 0=>trivial
 | n+1=>⟨slB_nil _ _,each_none D w n⟩
theorem Each2.set {α β:Type} {R:α→β→Prop}:∀ {l:List α} {m:List β} (i:Nat) {x:α} {y:β},Each2 R l m→R x y→Each2 R (l.set i x) (m.set i y)
 | [],[],_,_,_,_,_=>trivial
 | _::_,_::_,0,_,_,h,hr=>⟨hr,h.2⟩
 | _::_,_::_,i+1,_,_,h,hr=>⟨h.1,Each2.set i h.2 hr⟩
theorem own_set1 {w:World} {B i n:Nat} {t:TypeId} {v x:Value} {hs:List Value} (h:w.ownsRow B t 1 v n hs) (hi:i < n) :
 ∃ g cap cur,v=.slice (some ⟨g,0,none⟩) n cap∧B≤g∧g < w.heap.size∧At w g cur t∧i < cur.size∧∀ w',At w' g (cur.setIfInBounds i x) t→w'.ownsRow B t 1 v n (hs.set i x):=by
 have hl0:=h.1
 rcases h.2 with ⟨_,h0⟩ | ⟨g,cap,cur,rfl,hg,hh,hn,hm,hsz,ht⟩
 ·omega
 refine ⟨g,cap,cur,rfl,hg,(Array.getElem?_eq_some_iff.1 hh).1,hh,by rw [hsz];omega,fun w' hA=>⟨by rw [List.length_set];exact hl0,.inr ⟨g,cap,cur.setIfInBounds i x,rfl,hg,hA,hn,hm,?_,?_⟩⟩⟩
 ·rw [Array.size_setIfInBounds];exact hsz
 ·rw [Array.toList_setIfInBounds,←ht]
  exact List.take_set
theorem build_K014 (w:World):(Instr.build 22 #[]).run Tryz.prog w=.ok (.agg (u8s (List.replicate 32 0)).toArray) w:=by kernel_rfl
theorem infoSl14:(Tryz.prog.info? 31).map (·.size)=some 1:=by kernel_rfl
def WhOwn (w:World) (t:List RefV × List (Lb8) × Int) (e:Ending) (w':World):Prop:=∃ vr vp,e=.returned (.tuple #[vr,vp,.int .i64 t.2.2])∧OwnRf w' w.heap.size 38 vr t.1∧(∃ D hs,Each2 (fun p q=>SlB D w' p q) hs t.2.1∧w'.ownsRow w.heap.size 31 1 vp t.2.1.length hs∧∀ k,D k→w.heap.size≤k∧k < w'.heap.size∧vp.ownBlock≠some k)∧(∀ r∈t.1,r.Wf)∧Below w.heap.size w w'
theorem WhOwn.wh {w w':World} {t:List RefV × List (Lb8) × Int} {e:Ending} (h:WhOwn w t e w'):WhEnd w t e w':=by
 obtain ⟨vr,vp,he,ho,⟨D,hs,h1,h2,_⟩,hw,hb⟩:=h
 exact ⟨vr,vp,he,own_slrf ho hw,own_sls h1 h2,hb⟩
theorem pwhole14_own {F:Foot} {b:Nat} {s:St6} {B:Lb8} (key:Lb8) (p:Nat) (root:RefV) (w:World) (hT:TT w) (lk:key.length=32) (hp:PSt F b w s) (hok:Ok6 1000 s) (hB:Rd6 s B) (h0:1≤p) (h1:p≤216) (hrw:root.Wf) :
 Calls Tryz.prog 15 #[.pointer none,rq b,.agg (u8s key).toArray,.agg (psC p),.agg (refC root)] w (WhOwn w (wholeT B key p root)):=by
 have hit:=itn_big p h0 h1
 have itm:=fun wx=>pitems_any p wx h1
 have rot:=fun wx=>proot_any p wx h1
 have pgs:=fun wx=>ppages_any p wx
 have kds:=fun (i:Nat) wx (hi:p≤i) (hl:i < itn p)=>by
  have h:=pkids_own p (i:Int) wx h1
  rw [kidsZ_node hi hl] at h
  exact h
 have fk0:=fun (i:Nat) (r:RefV) wx (h:Below w.heap.size w wx) (hr:r.Wf)=>pfetchKids_rd key p (i:Int) r wx (hT.below h) lk (pst_below hp h) hok hB h1 hr
 have ft0:=fun (i:Nat) (r:RefV) wx (h:Below w.heap.size w wx) (hr:r.Wf)=>pfetch14_rd key p (i:Int) r wx (hT.below h) lk (pst_below hp h) hok hB h1 hr
 have hwf:=fun k=>wholeG_wf (B:=B) (key:=key) (p:=p) hrw k
 obtain ⟨m,hm⟩:∃ m,m=itn p:=⟨_,rfl⟩
 obtain ⟨ok,hokf⟩:∃ f:Nat→Int,f=fun n=>(wholeG B key p root (m - n)).2.2:=⟨_,rfl⟩
 obtain ⟨WR,hWR⟩:∃ f:Nat→List RefV,f=fun n=>(wholeG B key p root (m - n)).1:=⟨_,rfl⟩
 obtain ⟨WP,hWP⟩:∃ f:Nat→List (Lb8),f=fun n=>(wholeG B key p root (m - n)).2.1:=⟨_,rfl⟩
 obtain ⟨hd,hhd⟩:∃ f:Nat→RefV,f=fun n=>(WR n).getD (n - 1) zref:=⟨_,rfl⟩
 obtain ⟨fk2,hfk2⟩:∃ f:Nat→List RefV × Int,f=fun n=>fkT B key p ((n - 1:Nat):Int) (hd n):=⟨_,rfl⟩
 obtain ⟨ft2,hft2⟩:∃ f:Nat→Lb8 × Int,f=fun n=>fetchT B key p ((n - 1:Nat):Int) (hd n):=⟨_,rfl⟩
 have rw0:(List.replicate m zref).set (m - 1) root=WR m:=by
  rw [hWR];show _=(wholeG B key p root (m - m)).1;rw [Nat.sub_self]
  show _=List.replicate (itn p - 1) zref++[root]
  rw [←hm,show m=(m - 1)+1 by omega,List.replicate_succ',List.set_append_right _ _ (by simp)]
  simp
 have ok0:ok m=0:=by rw [hokf];show (wholeG B key p root (m - m)).2.2=0;rw [Nat.sub_self];rfl
 have inv:∀ n,n≤m→ok n=0→(WR n).length=m∧(WP n).length=p:=fun n hn h=>by
  rw [hokf] at h;rw [hWR,hWP]
  have g:=whole_inv (B:=B) (key:=key) (root:=root) h0 h1 (m - n) (by omega) h
  refine ⟨?_,g.lg⟩
  show (wholeG B key p root (m - n)).1.length=m
  rw [g.lr,hm]
 have rwf:∀ n,∀ r∈WR n,r.Wf:=fun n=>by rw [hWR];exact hwf _
 have hdw:∀ n,(hd n).Wf:=fun n=>by rw [hhd];exact getD_wf (rwf n) _
 have node:∀ n,p < n→n≤m→ok n=0→(fk2 n).2=0→ok (n - 1)=0∧laidR (WR n) (fst p (n - 1)) (fk2 n).1=WR (n - 1):=fun n hn hl h h2=>by
  rw [hokf] at h ⊢
  rw [hfk2,hhd,hWR] at h2
  have e1:itn p - (m - n+1)=n - 1:=by omega
  have e2:m - (n - 1)=m - n+1:=by omega
  have s1:=wholeG_node (k:=m - n) h (by omega)
  rw [e1] at s1
  rw [if_neg (fun x=>x h2)] at s1
  refine ⟨by show (wholeG B key p root (m - (n - 1))).2.2=0;rw [e2,s1],?_⟩
  rw [hfk2,hhd,hWR]
  show _=(wholeG B key p root (m - (n - 1))).1
  rw [e2,s1]
 have nodeE:∀ n,p < n→n≤m→ok n=0→(fk2 n).2≠0→wholeT B key p root=([],[],(fk2 n).2):=fun n hn hl h h2=>by
  rw [hokf] at h
  have e1:itn p - (m - n+1)=n - 1:=by omega
  have s1:=wholeG_node (k:=m - n) h (by omega)
  rw [e1] at s1
  have e5:fkT B key p ((n - 1:Nat):Int) ((wholeG B key p root (m - n)).1.getD (n - 1) zref)=fk2 n:=by rw [hfk2,hhd,hWR]
  rw [e5,if_pos h2] at s1
  exact wholeT_err (k:=m - n+1) (by omega) (by rw [s1]) h2
 have page:∀ n,0 < n→n≤p→ok n=0→(ft2 n).2=0→ok (n - 1)=0∧WR (n - 1)=WR n∧(WP n).set (n - 1) (ft2 n).1=WP (n - 1):=fun n hn hl h h2=>by
  rw [hokf] at h ⊢
  rw [hft2,hhd,hWR] at h2
  have e1:itn p - (m - n+1)=n - 1:=by omega
  have e2:m - (n - 1)=m - n+1:=by omega
  have s1:=wholeG_page (k:=m - n) h (by omega)
  rw [e1] at s1
  rw [if_neg (fun x=>x h2)] at s1
  refine ⟨by show (wholeG B key p root (m - (n - 1))).2.2=0;rw [e2,s1],?_,?_⟩
  ·rw [hWR]
   show (wholeG B key p root (m - (n - 1))).1=_
   rw [e2,s1]
  ·rw [hft2,hhd,hWR,hWP]
   show _=(wholeG B key p root (m - (n - 1))).2.1
   rw [e2,s1]
 have pageE:∀ n,0 < n→n≤p→ok n=0→(ft2 n).2≠0→wholeT B key p root=([],[],(ft2 n).2):=fun n hn hl h h2=>by
  rw [hokf] at h
  have e1:itn p - (m - n+1)=n - 1:=by omega
  have s1:=wholeG_page (k:=m - n) h (by omega)
  rw [e1] at s1
  have e5:fetchT B key p ((n - 1:Nat):Int) ((wholeG B key p root (m - n)).1.getD (n - 1) zref)=ft2 n:=by rw [hft2,hhd,hWR]
  rw [e5,if_pos h2] at s1
  exact wholeT_err (k:=m - n+1) (by omega) (by rw [s1]) h2
 have pg0:ok p=0→WP p=List.replicate p []:=fun h=>by
  rw [hokf] at h;rw [hWP]
  exact wholeG_none (m - p) (by omega) h
 have fin:ok 0=0→wholeT B key p root=(WR 0,WP 0,0):=fun h=>by
  rw [hokf] at h
  have h':(wholeG B key p root (itn p)).2.2=0:=by rw [←hm];exact h
  rw [wholeT_good h',hWR,hWP,←hm]
  show wholeG B key p root m=((wholeG B key p root (m - 0)).1,(wholeG B key p root (m - 0)).2.1,0)
  rw [Nat.sub_zero]
  rw [←hm] at h'
  exact Prod.ext rfl (Prod.ext rfl h')
 have fkl:∀ n,p < n→n≤m→(fk2 n).2=0→(fk2 n).1.length=many p (n - 1):=fun n hn hl h=>by
  rw [hfk2] at h ⊢
  exact fkT_len (by omega) (by omega) h
 have kid:∀ n,p < n→n≤m→1≤many p (n - 1)∧fst p (n - 1)+many p (n - 1)≤n - 1∧many p (n - 1)≤6:=fun n hn hl=>⟨(node_kids p (n - 1) h0 h1 (by omega) (by omega)).1,(node_kids p (n - 1) h0 h1 (by omega) (by omega)).2,many_le _ _⟩
 have fkw:∀ n,∀ r∈(fk2 n).1,r.Wf:=fun n=>by rw [hfk2];exact fkT_wf _ _ _ _ _
 have kds:∀ n wx,p < n→n≤m→Calls Tryz.prog 55 #[.agg (psC p),.int .i64 ((n - 1:Nat):Int)] wx (OwnI wx (kz p (n - 1) (many p (n - 1)))):=fun n wx hn hl=>kds (n - 1) wx (by omega) (by omega)
 have fk:∀ n wx,Below w.heap.size w wx→Calls Tryz.prog 59 #[.pointer none,rq b,.agg (u8s key).toArray,.agg (psC p),.int .i64 ((n - 1:Nat):Int),.agg (refC (hd n))] wx (RfOwn 38 wx (fk2 n).1 (fk2 n).2):=fun n wx h=>by rw [hfk2];exact fk0 (n - 1) (hd n) wx h (hdw n)
 have ft:∀ n wx,Below w.heap.size w wx→Calls Tryz.prog 60 #[.pointer none,rq b,.agg (u8s key).toArray,.agg (psC p),.int .i64 ((n - 1:Nat):Int),.agg (refC (hd n))] wx (FtEnd wx (ft2 n).1 (ft2 n).2):=fun n wx h=>by rw [hft2];exact ft0 (n - 1) (hd n) wx h (hdw n)
 clear fk0 ft0
 have hdg:∀ n,(WR n).getD (n - 1) zref=hd n:=fun n=>by rw [hhd]
 have kzl:∀ n,(kz p (n - 1) (many p (n - 1))).length=many p (n - 1):=fun n=>kz_length _ _ _
 have kzg:∀ n t,t < many p (n - 1)→(kz p (n - 1) (many p (n - 1))).getD t 0=((fst p (n - 1)+t:Nat):Int):=fun n t ht=>kz_get _ _ _ _ ht
 obtain ⟨Y,hY⟩:∃ Y,Y=wholeT B key p root:=⟨_,rfl⟩
 rw [←hY] at nodeE pageE fin ⊢
 obtain ⟨mn,hmn⟩:∃ f:Nat→Nat,f=fun n=>many p (n - 1):=⟨_,rfl⟩
 obtain ⟨fs,hfs⟩:∃ f:Nat→Nat,f=fun n=>fst p (n - 1):=⟨_,rfl⟩
 obtain ⟨kzn,hkzn⟩:∃ f:Nat→List Int,f=fun n=>kz p (n - 1) (many p (n - 1)):=⟨_,rfl⟩
 have kds:∀ n wx,p < n→n≤m→Calls Tryz.prog 55 #[.agg (psC p),.int .i64 ((n - 1:Nat):Int)] wx (OwnI wx (kzn n)):=fun n wx hn hl=>by rw [hkzn];exact kds n wx hn hl
 have kzl:∀ n,(kzn n).length=mn n:=fun n=>by rw [hkzn,hmn];exact kzl n
 have kzg:∀ n t,t < mn n→(kzn n).getD t 0=((fs n+t:Nat):Int):=fun n t ht=>by rw [hkzn,hfs];rw [hmn] at ht;exact kzg n t ht
 have node:∀ n,p < n→n≤m→ok n=0→(fk2 n).2=0→ok (n - 1)=0∧laidR (WR n) (fs n) (fk2 n).1=WR (n - 1):=fun n a c d e=>by rw [hfs];exact node n a c d e
 have fkl:∀ n,p < n→n≤m→(fk2 n).2=0→(fk2 n).1.length=mn n:=fun n a c d=>by rw [hmn];exact fkl n a c d
 have kid:∀ n,p < n→n≤m→1≤mn n∧fs n+mn n≤n - 1∧mn n≤6:=fun n a c=>by rw [hmn,hfs];exact kid n a c
 rw [←hm] at itm rot hit
 have hro:(m:Int) - 1=((m - 1:Nat):Int):=by omega
 rw [hro] at rot
 obtain ⟨i2,hi2,hz2,hs2,hb2⟩:=info_parts elemRP.2
 have rs:=refC_size hrw;have ro:=refC_one root
 obtain ⟨M,hM⟩:∃ M,M=refC root:=⟨_,rfl⟩
 have hrm:refL root=M.toList:=by rw [hM];rfl
 have kc:(u8s key).toArray.size=32:=by simp [u8s_length,lk]
 obtain ⟨KC,hKC⟩:∃ K,K=(u8s key).toArray:=⟨_,rfl⟩
 have cs:(psC p).size=1:=rfl
 obtain ⟨C,hC⟩:∃ C,C=psC p:=⟨_,rfl⟩
 rw [←hM] at rs ro ⊢
 rw [←hKC] at kc ft fk ⊢
 rw [←hC] at itm rot pgs kds ft fk cs ⊢
 have a0:At (((w.alloc (.cells KC 22)).alloc (.cells C 26)).alloc (.cells M 38)) w.heap.size KC 22:=((at_new w KC _).alloc _).alloc _
 have a1:At (((w.alloc (.cells KC 22)).alloc (.cells C 26)).alloc (.cells M 38)) (w.heap.size+1) C 26:=by
  have h:=(at_new (w.alloc (.cells KC 22)) C 26).alloc (.cells M 38)
  simpa using h
 have a2:At (((w.alloc (.cells KC 22)).alloc (.cells C 26)).alloc (.cells M 38)) (w.heap.size+1+1) M 38:=by
  have h:=at_new ((w.alloc (.cells KC 22)).alloc (.cells C 26)) M 38
  simpa using h
 have b4:Below w.heap.size w (((w.alloc (.cells KC 22)).alloc (.cells C 26)).alloc (.cells M 38)):=(((Below.refl _ _).alloc (Nat.le_refl _) _).alloc (by simp) _).alloc (by simp;omega) _
 have kds:∀ (i:Nat) wx,p≤i→i < m→Calls Tryz.prog 55 #[.agg C,.int .i64 (i:Int)] wx (OwnI wx (kzn (i+1))):=fun i wx a c=>kds (i+1) wx (by omega) (by omega)
 have fk:∀ (i:Nat) wx,Below w.heap.size w wx→Calls Tryz.prog 59 #[.pointer none,rq b,.agg KC,.agg C,.int .i64 (i:Int),.agg (refC (hd (i+1)))] wx (RfOwn 38 wx (fk2 (i+1)).1 (fk2 (i+1)).2):=fun i wx h=>fk (i+1) wx h
 have ft:∀ (i:Nat) wx,Below w.heap.size w wx→Calls Tryz.prog 60 #[.pointer none,rq b,.agg KC,.agg C,.int .i64 (i:Int),.agg (refC (hd (i+1)))] wx (FtEnd wx (ft2 (i+1)).1 (ft2 (i+1)).2):=fun i wx h=>ft (i+1) wx h
 have node:∀ i,p≤i→i < m→ok (i+1)=0→(fk2 (i+1)).2=0→ok i=0∧laidR (WR (i+1)) (fs (i+1)) (fk2 (i+1)).1=WR i:=fun i a c d e=>node (i+1) (by omega) (by omega) d e
 have page:∀ i,i < p→ok (i+1)=0→(ft2 (i+1)).2=0→ok i=0∧WR i=WR (i+1)∧(WP (i+1)).set i (ft2 (i+1)).1=WP i:=fun i a c d=>page (i+1) (by omega) (by omega) c d
 have hdg:∀ i,(WR (i+1)).getD i zref=hd (i+1):=fun i=>hdg (i+1)
 have kid:∀ i,p≤i→i < m→1≤mn (i+1)∧fs (i+1)+mn (i+1)≤i∧mn (i+1)≤6:=fun i a c=>kid (i+1) (by omega) (by omega)
 unfold WhOwn
 have IT:=zh itm;have RT:=zh rot;have PG:=zh pgs;have KD:=zh kds;have FK:=zh fk;have FTH:=zh ft;have RW0:=zh rw0;have OK0:=zh ok0;have INV:=zh inv;have RWF:=zh rwf;have HDW:=zh hdw;have ND:=zh node;have NE:=zh nodeE;have PD:=zh page;have PE:=zh pageE;have PG0:=zh pg0;have FIN:=zh fin;have FKL:=zh fkl;have KID:=zh kid;have FKW:=zh fkw;have HDG:=zh hdg;have KZL:=zh kzl;have KZG:=zh kzg
 have I2:=zh hi2;have Z2:=zh hz2;have S2:=zh hs2;have B2:=zh hb2;have RS:=zh rs;have RO:=zh ro;have HM:=zh hrm;have KS:=zh kc;have CS:=zh cs;have RWF0:=zh hrw
 have A0:=zh a0;have A1:=zh a1;have A2:=zh a2;have B4:=zh b4
 clear itm rot pgs kds fk ft rw0 ok0 inv rwf hdw node nodeE page pageE pg0 fin fkl kid fkw hdg kzl kzg hi2 hz2 hs2 hb2 rs ro hrm kc cs hrw a0 a1 a2 b4
 clear hM hKC hC hY hmn hfs hkzn hm hokf hWR hWP hhd hfk2 hft2 hT lk hp hok hB hwf hro
 go_enter Tryz.func15,Tryz.ntmps15
 go_upto_region 1 with fail
 generalize ((w.alloc (.cells KC 22)).alloc (.cells C 26)).alloc (.cells M 38)=w4 at *
 have hm0:¬ (m:Int)=0:=by omega
 have hm2:¬ (0:Int)=(m:Int):=by omega
 go_wp2_with (refine wpList_load_all zr 26 _ zr (w.heap.size+1) zr _ Tryz.underlying26 zr C _ A1.out (by rw [CS.out];exact infoPS) ?_)
 refine (IT.out _).mono ?_
 rintro e w5 ⟨rfl,hb5⟩
 have B5:=zh (B4.out.trans (hb5.mono B4.out.size));have A05:=zh (A0.out.below hb5 A0.out.lt);have A15:=zh (A1.out.below hb5 A1.out.lt);have A25:=zh (A2.out.below hb5 A2.out.lt)
 clear hb5 A0 A1 A2 B4
 go_wp2_with (refine wpList_load_all zr 26 _ zr (w.heap.size+1) zr _ Tryz.underlying26 zr C _ A15.out (by rw [CS.out];exact infoPS) ?_)
 refine (IT.out _).mono ?_
 rintro e w6 ⟨rfl,hb6⟩
 have B6:=zh (B5.out.trans (hb6.mono B5.out.size));have A06:=zh (A05.out.below hb6 A05.out.lt);have A16:=zh (A15.out.below hb6 A15.out.lt);have A26:=zh (A25.out.below hb6 A25.out.lt)
 clear hb6 A05 A15 A25 B5 hm0 hm2
 go_upto_region 4 with (refine wpList_make_full _ zr _ _ 27 zr w6.heap.size 38 i2 (.agg (refC zref)) 34 Tryz.underlying27 I2.out Z2.out S2.out .i64 .i64 (m:Int) (m:Int) m zr zr zr zr (by rw [B2.out];omega) (by simp [maxLen];omega) (Nat.le_refl _) ?_;intro w7 ho7 hg7;have O7:=zh ho7;have B7:Hid (Below w6.heap.size w6 w7):=zh ((Below.refl _ _).grown hg7 (Nat.le_refl _) (fun k e=>by cases e));clear ho7 hg7)
 have o7:OwnRf w7 w6.heap.size 38 (.slice (some ⟨w6.heap.size,0,none⟩) m m) (List.replicate m zref):=by
  have h:=O7.out
  rw [made_refs] at h
  show w7.ownsRow _ _ _ _ (List.replicate m zref).length _
  rw [List.length_replicate]
  exact h
 obtain ⟨g,hg⟩:∃ g,g=w6.heap.size:=⟨_,rfl⟩
 have HG:=zh hg
 have O8:Hid (OwnRf w7 w6.heap.size 38 (.slice (some ⟨g,0,none⟩) m m) (List.replicate m zref)):=zh (by rw [hg];exact o7)
 have A07:=zh (A06.out.below B7.out A06.out.lt);have A17:=zh (A16.out.below B7.out A16.out.lt);have A27:=zh (A26.out.below B7.out A26.out.lt)
 rw [←hg]
 clear hg o7 O7
 have GL:Hid (g < w7.heap.size):=zh (World.ownsRow.lt O8.out g rfl).2
 have LB:Hid (w.heap.size+1+1 < w6.heap.size):=zh A26.out.lt
 go_upto_region 4 with fail
 refine wp_region_plan_in (fun y=>At y (w.heap.size+1) C 26∧At y (w.heap.size+1+1) M 38) (.take 0 (.take 1 (.take 3 (.sole 2 (.take 4 (.sole 5 .done)))))) (by kernel_rfl) (by kernel_rfl) (by kernel_rfl) ⟨A17.out.drew,A27.out.drew⟩ ?_
 (first | refine Mem.pm1 ?_ | refine Mem.pm2 ?_ | refine Mem.pt ?_ | refine Mem.pf ?_)
 (simp only [Mem.zp,Mem.pb,Mem.pc])
 refine plan_row 26 _ (w.heap.size+1) _ C 26 zr zr zr ze (fun w' hw'=>hw'.1) Tryz.underlying26 zr (by rw [CS.out];exact infoPS) ?_
 (simp only [Mem.zp,Mem.pb,Mem.pc])
 refine plan_row 38 _ (w.heap.size+1+1) _ M 38 zr zr zr ze (fun w' hw'=>hw'.2) Tryz.underlying38 zr (by rw [RS.out];exact infoRfP) ?_
 (simp only [Mem.zp,Mem.pb,Mem.pc])
 refine plan_call 58 _ _ _ (by kernel_rfl) zr zr zr (by first | exact Mem.ev_none _ | (simp only [List.map_toArray,List.map_cons,List.map_nil,Mem.ev_tmp,List.getD_cons_succ,List.getD_cons_zero] <;> rfl)) ?_
 refine (RT.out w7.drew).mono ?_
 rintro e w8 ⟨rfl,hb8⟩
 have Q8:Hid (Below w7.heap.size w7 w8):=zh (((Below.refl _ _).drew).trans (hb8.mono (Nat.le_refl _)))
 have A08:=zh (A07.out.below Q8.out A07.out.lt);have A18:=zh (A17.out.below Q8.out A17.out.lt);have A28:=zh (A27.out.below Q8.out A27.out.lt)
 have B8:Hid (Below w6.heap.size w6 w8):=zh (B7.out.trans (Q8.out.mono B7.out.size))
 clear hb8
 refine ⟨_,rfl,⟨A18.out,A28.out⟩,?_⟩
 (simp only [Mem.zp,Mem.pb,Mem.pc])
 refine plan_index_z 27 38 _ _ g 0 m m 34 (m - 1) zr zr zr ze ze (by omega) Tryz.underlying27 infoRfP ?_
 (simp only [Mem.zp,Mem.pb,Mem.pc])
 have o9:OwnRf w8 w6.heap.size 38 (.slice (some ⟨g,0,none⟩) m m) (List.replicate m zref):=ownsRow_below O8.out Q8.out
 obtain ⟨g',cap',cur,ev,hgB,hgl,hcur,hfit,hown⟩:=own_store (i:=m - 1) o9 (fun r hr=>by rw [List.eq_of_mem_replicate hr];exact zref_wf) RWF0.out (by simp;omega)
 injection ev with ev1 ev2 ev3
 injection ev1 with ev1
 injection ev1 with ev1 _ _
 subst ev1
 clear ev2 ev3
 rw [RW0.out,HM.out] at hown
 have OWN:=zh hown
 have hne:w.heap.size+1+1≠g:=by have:=LB.out;have:=HG.out;omega
 have hne1:w.heap.size+1≠g:=by have:=LB.out;have:=HG.out;omega
 have hne0:w.heap.size≠g:=by have:=LB.out;have:=HG.out;omega
 refine plan_store_at 38 _ _ g (0+(m - 1)*34) M cur (Mem.splice cur ((m - 1)*34) M.toList) 38 zr zr zr zr ze ze (by rw [RS.out];exact infoRfP) hcur (by rw [RS.out,Nat.zero_add];exact hfit) RO.out (by rw [Nat.zero_add]) ⟨A18.out.row_other _ hne1,A28.out.row_other _ hne⟩ ?_
 refine plan_nil ?_
 have B9:Hid (Below w6.heap.size w6 (w8.setRow g (Mem.splice cur ((m - 1)*34) M.toList))):=zh (below_row B8.out hgB _)
 have A09:Hid (At (w8.setRow g (Mem.splice cur ((m - 1)*34) M.toList)) w.heap.size KC 22):=zh (A08.out.row_other _ hne0)
 have A19:Hid (At (w8.setRow g (Mem.splice cur ((m - 1)*34) M.toList)) (w.heap.size+1) C 26):=zh (A18.out.row_other _ hne1)
 generalize w8.setRow g (Mem.splice cur ((m - 1)*34) M.toList)=w9 at *
 clear o9 hgB hgl hcur hfit hown hne hne1 hne0 A07 A17 A27 A08 A18 A28 Q8 B8 B7 O8 GL
 go_wp2_with (refine wpList_load_all zr 26 _ zr (w.heap.size+1) zr _ Tryz.underlying26 zr C _ A19.out (by rw [CS.out];exact infoPS) ?_)
 refine (RT.out _).mono ?_
 rintro e w10 ⟨rfl,hb10⟩
 have B10:Hid (Below w6.heap.size w6 w10):=zh (B9.out.trans (hb10.mono B9.out.size))
 have O10:Hid (OwnRf w10 w6.heap.size 38 (.slice (some ⟨g,0,none⟩) m m) (WR m)):=zh (ownsRow_below OWN.out hb10)
 clear hb10 OWN B9 A09 A19
 obtain ⟨i0,hi0⟩:∃ i,i=m - 1:=⟨_,rfl⟩
 have hi01:i0+1=m:=by omega
 have HI0:=zh hi01
 rw [←hi0]
 clear hi0 hi01
 go_wp2_with fail
 go_loopw [14] (fun vi wr=>∃ i:Nat,p≤i+1∧i+1≤m∧vi=.int .i64 (i:Int)∧ok (i+1)=0∧OwnRf wr w6.heap.size 38 (.slice (some ⟨g,0,none⟩) m m) (WR (i+1))∧Below w6.heap.size w6 wr) (fun vi _=>(intOf vi).toNat)
 case atStart=>exact ⟨i0,by have:=HI0.out;omega,by have:=HI0.out;omega,rfl,by rw [HI0.out];exact OK0.out,by rw [HI0.out];exact O10.out,B10.out⟩
 case round=>
  clear O10 B10 HI0
  obtain ⟨i,hpi,him,rfl,hk0,ho,hbw⟩:=hrel
  have OW:=zh ho;have BW:=zh hbw;have OK:=zh hk0
  have A0W:=zh (A06.out.below hbw A06.out.lt);have A1W:=zh (A16.out.below hbw A16.out.lt)
  clear ho hbw hk0
  go_wp2_with (refine wpList_load_all zr 26 _ zr (w.heap.size+1) zr _ Tryz.underlying26 zr C _ A1W.out (by rw [CS.out];exact infoPS) ?_)
  refine (PG.out _).mono ?_
  rintro e w11 ⟨rfl,hb11⟩
  have O11:Hid (OwnRf w11 w6.heap.size 38 (.slice (some ⟨g,0,none⟩) m m) (WR (i+1))):=zh (ownsRow_below OW.out hb11)
  have B11:Hid (Below w6.heap.size w6 w11):=zh (BW.out.trans (hb11.mono BW.out.size));have A01:=zh (A0W.out.below hb11 A0W.out.lt);have A11:=zh (A1W.out.below hb11 A1W.out.lt)
  clear hb11 OW BW A0W A1W
  have BX:Hid (Below w.heap.size w w11):=zh (B6.out.trans (B11.out.mono B6.out.size))
  obtain ⟨hl1,hl2⟩:=INV.out (i+1) him OK.out
  have HL1:=zh hl1;have HL2:=zh hl2
  clear hl1 hl2
  by_cases hge:p≤i
  ·have hge2:(p:Int)≤(i:Int):=by omega
   have hdr:∀ y,Below w11.heap.size w11 y→y.rangeAt g (0+i*34) (refL (hd (i+1))):=fun y hy=>by
    have h:=slrf_cell (i:=i) ((own_slrf O11.out (RWF.out _)).below hy) HL1.out.symm (by omega)
    rw [HDG.out] at h
    exact h
   have hfk:=FK.out i w11.drew ((BX.out).drew)
   have her:=NE.out (i+1) (by omega) him OK.out
   have hnd:=ND.out i hge (by omega) OK.out
   have hfl:=FKL.out (i+1) (by omega) him
   have hfw:=FKW.out (i+1)
   obtain ⟨k1,k2,k3⟩:=KID.out i hge (by omega)
   have hds:=refC_size (HDW.out (i+1))
   obtain ⟨HM1,hHM1⟩:∃ m,m=refC (hd (i+1)):=⟨_,rfl⟩
   have hdm:refL (hd (i+1))=HM1.toList:=by rw [hHM1];rfl
   rw [←hHM1] at hfk hds
   rw [hdm] at hdr
   obtain ⟨kL,e,hke⟩:∃ a c,fk2 (i+1)=(a,c):=⟨_,_,rfl⟩
   rw [hke] at hfk her hnd hfl hfw
   simp only at hfk her hnd hfl hfw
   obtain ⟨c,hc⟩:∃ c,c=mn (i+1):=⟨_,rfl⟩
   obtain ⟨f,hf⟩:∃ f,f=fs (i+1):=⟨_,rfl⟩
   rw [←hc] at hfl k1 k2 k3
   rw [←hf] at hnd k2
   have hkd:=KD.out i
   have hkzl:=KZL.out (i+1)
   have hkzg:=KZG.out (i+1)
   rw [←hc] at hkzl hkzg
   rw [←hf] at hkzg
   obtain ⟨KZ1,hKZ1⟩:∃ K,K=kzn (i+1):=⟨_,rfl⟩
   rw [←hKZ1] at hkd hkzl hkzg
   have FKI:=zh hfk;have ERI:=zh her;have NDI:=zh hnd;have FLI:=zh hfl;have FWI:=zh hfw;have HDS:=zh hds;have HDR:=zh hdr;have KDI:=zh (fun wx=>hkd wx hge (by omega));have KZLI:=zh hkzl;have KZGI:=zh hkzg
   clear hfk her hnd hfl hfw hds hdm hdr hHM1 hke hkd hkzl hkzg hKZ1 hc hf
   go_upto_region 8 with fail
   have D0:Hid (Below w11.heap.size w11 w11.drew):=zh (Below.refl _ _).drew
   refine wp_region_plan_in (fun y=>Below w11.heap.size w11 y) (.take 0 (.take 1 (.take 2 (.take 3 (.take 4 (.take 5 (.take 6 (.take 7 (.take 8 (.sole 9 (.take 10 (.take 11 (.take 12 (.take 13 (.take 14 .done))))))))))))))) (by kernel_rfl) (by kernel_rfl) (by kernel_rfl) D0.out ?_
   iterate 2 ((first | refine Mem.pm1 ?_ | refine Mem.pm2 ?_ | refine Mem.pt ?_ | refine Mem.pf ?_);(simp only [Mem.zp,Mem.pb,Mem.pc]))
   refine plan_row 22 _ w.heap.size _ KC 22 zr zr zr ze (fun w' hw'=>A01.out.below hw' A01.out.lt) Tryz.underlying22 zr (by rw [KS.out];kernel_rfl) ?_
   (simp only [Mem.zp,Mem.pb,Mem.pc])
   refine plan_row 26 _ (w.heap.size+1) _ C 26 zr zr zr ze (fun w' hw'=>A11.out.below hw' A11.out.lt) Tryz.underlying26 zr (by rw [CS.out];exact infoPS) ?_
   (simp only [Mem.zp,Mem.pb,Mem.pc])
   iterate 3 ((first | refine Mem.pm1 ?_ | refine Mem.pm2 ?_ | refine Mem.pt ?_ | refine Mem.pf ?_);(simp only [Mem.zp,Mem.pb,Mem.pc]))
   refine plan_index_z 27 38 _ _ g 0 m m 34 i zr zr zr ze ze (by omega) Tryz.underlying27 infoRfP ?_
   (simp only [Mem.zp,Mem.pb,Mem.pc])
   refine plan_load_range 38 _ g (0+i*34) _ HM1 zr zr zr ze (fun w' hw'=>HDR.out w' hw') Tryz.underlying38 zr (by rw [HDS.out];exact infoRfP) ?_
   (simp only [Mem.zp,Mem.pb,Mem.pc])
   refine plan_call 59 _ _ _ (by kernel_rfl) zr zr zr (by first | exact Mem.ev_none _ | (simp only [List.map_toArray,List.map_cons,List.map_nil,Mem.ev_tmp,List.getD_cons_succ,List.getD_cons_zero] <;> rfl)) ?_
   refine (FKI.out).mono ?_
   rintro o8 w12 ⟨vk8,rfl,hr8,hb8⟩
   have R12:Hid (OwnRf w12 w11.heap.size 38 vk8 kL):=zh hr8
   have Q12:Hid (Below w11.heap.size w11 w12):=zh (D0.out.trans (hb8.mono (Nat.le_refl _)))
   clear hr8 hb8
   refine ⟨_,rfl,Q12.out,?_⟩
   (simp only [Mem.zp,Mem.pb,Mem.pc])
   (first | refine Mem.pm1 ?_ | refine Mem.pm2 ?_ | refine Mem.pt ?_ | refine Mem.pf ?_)
   (simp only [Mem.zp,Mem.pb,Mem.pc])
   refine plan_extract _ 0 _ _ zr zr zr ze zr ?_
   (simp only [Mem.zp,Mem.pb,Mem.pc])
   refine plan_extract _ 1 _ _ zr zr zr ze zr ?_
   (simp only [Mem.zp,Mem.pb,Mem.pc])
   iterate 2 ((first | refine Mem.pm1 ?_ | refine Mem.pm2 ?_ | refine Mem.pt ?_ | refine Mem.pf ?_);(simp only [Mem.zp,Mem.pb,Mem.pc]))
   refine plan_nil ?_
   have BX12:Hid (Below w.heap.size w w12):=zh (BX.out.trans (Q12.out.mono BX.out.size))
   by_cases he:e=0
   ·subst he
    have hfl:=FLI.out rfl
    obtain ⟨s1,s2⟩:=NDI.out rfl
    have S1:=zh s1;have S2':=zh s2;have HFL:=zh hfl
    obtain ⟨ak8,ck8,e8⟩:=rows_hd R12.out
    rw [hfl] at e8
    subst e8
    have O12:Hid (OwnRf w12 w6.heap.size 38 (.slice (some ⟨g,0,none⟩) m m) (WR (i+1))):=zh (ownsRow_below O11.out Q12.out)
    have B12:Hid (Below w6.heap.size w6 w12):=zh (B11.out.trans (Q12.out.mono B11.out.size))
    have A12:=zh (A11.out.below Q12.out A11.out.lt)
    have GL:Hid (g < w11.heap.size):=zh (World.ownsRow.lt O11.out g rfl).2
    clear s1 s2 hfl
    go_wp2_with (refine wpList_load_all zr 26 _ zr (w.heap.size+1) zr _ Tryz.underlying26 zr C _ A12.out (by rw [CS.out];exact infoPS) ?_)
    refine (KDI.out _).mono ?_
    rintro e w13 ⟨vz,rfl,hz,hb13⟩
    obtain ⟨az,cz,ez,_⟩:=OwnV.open hz
    rw [iz_length,KZLI.out] at ez
    subst ez
    have Z13:Hid (OwnV w13 w11.heap.size 3 (.slice az c cz) (iz KZ1)):=zh (ownsRow_base hz Q12.out.size)
    have R13:Hid (OwnRf w13 w11.heap.size 38 (.slice ak8 c ck8) kL):=zh (ownsRow_below R12.out hb13)
    have O13:Hid (OwnRf w13 w6.heap.size 38 (.slice (some ⟨g,0,none⟩) m m) (laidR (WR (i+1)) f (kL.take 0))):=zh (by
     rw [List.take_zero,laidR_none]
     exact ownsRow_below O12.out hb13)
    have B13:Hid (Below w6.heap.size w6 w13):=zh (B12.out.trans (hb13.mono B12.out.size))
    clear hz hb13 O12 B12 R12 A12
    go_wp2_with fail
    go_loopw [62] (fun vt wq=>∃ t:Nat,t≤c∧vt=.int .i64 (t:Int)∧OwnRf wq w6.heap.size 38 (.slice (some ⟨g,0,none⟩) m m) (laidR (WR (i+1)) f (kL.take t))∧OwnRf wq w11.heap.size 38 (.slice ak8 c ck8) kL∧OwnV wq w11.heap.size 3 (.slice az c cz) (iz KZ1)∧Below w6.heap.size w6 wq) (fun vt _=>c - (intOf vt).toNat)
    case atStart=>exact ⟨0,by omega,rfl,O13.out,R13.out,Z13.out,B13.out⟩
    case round=>
     clear O13 R13 Z13 B13
     obtain ⟨t,htc,rfl,ho,hr,hz,hbq⟩:=hrel
     have OQ:=zh ho;have RQ:=zh hr;have ZQ:=zh hz;have BQ:=zh hbq
     clear ho hr hz hbq
     by_cases hlt:t < c
     ·have hlt2:(t:Int) < (c:Int):=by omega
      obtain ⟨zb,zo,ea,_,hzc⟩:=sli_at (i:=t) (ownV_sli ZQ.out) KZLI.out.symm hlt
      rw [KZGI.out t hlt] at hzc
      subst ea
      obtain ⟨kb,kof,ea,hkl,hkr⟩:=slrf_at (i:=t) (own_slrf RQ.out FWI.out) HFL.out.symm hlt
      subst ea
      obtain ⟨q,hq⟩:∃ q,q=f+t:=⟨_,rfl⟩
      rw [←hq] at hzc
      have hqm:(q:Int) < (m:Int):=by omega
      obtain ⟨rr,hrr⟩:∃ r,r=kL.getD t zref:=⟨_,rfl⟩
      rw [←hrr] at hkr
      have hrw:rr.Wf:=by rw [hrr];exact getD_wf FWI.out t
      have rs1:=refC_size hrw;have ro1:=refC_one rr
      obtain ⟨RM,hRM⟩:∃ m,m=refC rr:=⟨_,rfl⟩
      have hrm1:refL rr=RM.toList:=by rw [hRM];rfl
      rw [←hRM] at rs1 ro1
      have hlk:kL.length=c:=HFL.out
      have hset:=laidR_set (R:=WR (i+1)) (f:=f) (L:=kL) (t:=t) (by rw [HL1.out];omega) (by omega)
      have hll:=laidR_length (R:=WR (i+1)) (f:=f) (L:=kL.take t) (by rw [HL1.out,List.length_take];omega)
      obtain ⟨g',cap',cur,ev,hgB,hgl,hcur,hfit,hown⟩:=own_store (i:=q) OQ.out (laidR_wf (RWF.out _) fun r hr=>FWI.out r (List.mem_of_mem_take hr)) hrw (by rw [hll,HL1.out];omega)
      injection ev with ev1 ev2 ev3
      injection ev1 with ev1
      injection ev1 with ev1 _ _
      subst ev1
      clear ev2 ev3
      rw [hq,hrr,hset,←hrr,←hq,hrm1] at hown
      rw [hrm1] at hkr
      have hother:∀ k,k≠g→(wr.setRow g (Mem.splice cur (q*34) RM.toList)).heap[k]?=wr.heap[k]?:=fun k hne=>setRow_other wr g k _ hne
      have CUR:=zh hcur;have FIT:=zh hfit;have OWN:=zh hown;have RS1:=zh rs1;have RO1:=zh ro1;have RG1:=zh hkr
      have BN:Hid (Below w6.heap.size w6 (wr.setRow g (Mem.splice cur (q*34) RM.toList))):=zh (below_row BQ.out hgB _)
      have RN:Hid (OwnRf (wr.setRow g (Mem.splice cur (q*34) RM.toList)) w11.heap.size 38 (.slice (some ⟨kb,kof,none⟩) c ck8) kL):=zh (ownsRow_keep RQ.out fun k hk=>hother k (by have:=(World.ownsRow.lt RQ.out k hk).1;have:=GL.out;omega))
      have ZN:Hid (OwnV (wr.setRow g (Mem.splice cur (q*34) RM.toList)) w11.heap.size 3 (.slice (some ⟨zb,zo,none⟩) c cz) (iz KZ1)):=zh (ownsRow_keep ZQ.out fun k hk=>hother k (by have:=(World.ownsRow.lt ZQ.out k hk).1;have:=GL.out;omega))
      clear hkr hrr hrw rs1 ro1 hRM hrm1 hset hll hgB hgl hcur hfit hown hother hkl hlk hq
      go_wp2_with (first
       | (refine wpList_load_mid zr 38 _ zr kb (kof+t*34) zr RM.toList _ RG1.out Tryz.underlying38 zr (by rw [infoRfP,Array.length_toList,RS1.out]) ?_;rw [Array.toArray_toList])
       | (refine wpList_store_at zr 38 _ _ zr zr g (q*34) RM zr zr (by rw [RS1.out];exact infoRfP) cur 38 CUR.out (by rw [RS1.out];exact FIT.out) RO1.out ?_))
      go_roundw
      case rel=>exact ⟨t+1,by omega,by go_num,OWN.out,RN.out,ZN.out,BN.out⟩
      case measure=>simp [intOf];omega
     ·have htc2:t=c:=by omega
      have hge3:¬ (t:Int) < (c:Int):=by omega
      have hon:OwnRf wr w6.heap.size 38 (.slice (some ⟨g,0,none⟩) m m) (WR i):=by
       have h:=OQ.out
       rw [htc2,←HFL.out,List.take_length,S2'.out] at h
       exact h
      have ON:=zh hon
      obtain ⟨j,hj⟩:∃ j,j+1=i:=⟨i - 1,by omega⟩
      have hji:(i:Int) - 1=(j:Int):=by omega
      have HJ:=zh hj
      have hjp:p≤j+1:=by omega
      have hjm:j+1≤m:=by omega
      clear hon hj OQ
      go_wp2_with fail
      go_roundw
      case rel=>exact ⟨j,hjp,hjm,rfl,by rw [HJ.out];exact S1.out,by rw [HJ.out];exact ON.out,BQ.out⟩
      case measure=>simp [intOf];omega
   ·have hy:=ERI.out he
    have HY:=zh hy
    have hne:¬ e=0:=he
    clear hy he
    go_wp2_with fail
    go_ret3
    exact ⟨.slice none 0 0,.slice none 0 0,by rw [HY.out];rfl,by rw [HY.out];exact World.ownsRow_nil _ _ _ _,⟨fun _=>False,[],by rw [HY.out];trivial,by rw [HY.out];exact World.ownsRow_nil _ _ _ _,fun _ h=>h.elim⟩,by rw [HY.out];exact fun r hr=>(by cases hr),BX12.out⟩
  ·have hip:i+1=p:=by omega
   have hge2:¬ (p:Int)≤(i:Int):=by omega
   rw [hip] at O11
   rw [hip] at OK
   obtain ⟨i8,hi8,hz8,hs8,hb8⟩:=info_parts elemRS9.2
   have I8:=zh hi8;have Z8:=zh hz8;have S8:=zh hs8;have B8:=zh hb8
   clear hi8 hz8 hs8 hb8 HL1 HL2 hge
   go_wp2_with (refine wpList_load_all zr 26 _ zr (w.heap.size+1) zr _ Tryz.underlying26 zr C _ A11.out (by rw [CS.out];exact infoPS) ?_)
   refine (PG.out _).mono ?_
   rintro e w12 ⟨rfl,hb12⟩
   have O12:Hid (OwnRf w12 w6.heap.size 38 (.slice (some ⟨g,0,none⟩) m m) (WR p)):=zh (ownsRow_below O11.out hb12)
   have B12:Hid (Below w6.heap.size w6 w12):=zh (B11.out.trans (hb12.mono B11.out.size));have A02:=zh (A01.out.below hb12 A01.out.lt);have A12:=zh (A11.out.below hb12 A11.out.lt)
   have GL:Hid (g < w12.heap.size):=zh (World.ownsRow.lt O12.out g rfl).2
   clear hb12 O11 B11 A01 A11 BX
   go_upto_region 17 with (refine wpList_make_full _ zr _ _ 32 zr w12.heap.size 31 i8 (.slice none 0 0) 1 Tryz.underlying32 I8.out Z8.out S8.out .i64 .i64 (p:Int) (p:Int) p zr zr zr zr (by rw [B8.out];omega) (by simp [maxLen];omega) (Nat.le_refl _) ?_;intro w13 ho13 hg13;have P13:Hid (w13.ownsRow w12.heap.size 31 1 (.slice (some ⟨w12.heap.size,0,none⟩) p p) p (List.replicate p (.slice none 0 0))):=zh (by rw [made_none] at ho13;exact ho13);have Q13:Hid (Below w12.heap.size w12 w13):=zh ((Below.refl _ _).grown hg13 (Nat.le_refl _) (fun k e=>by cases e));clear ho13 hg13)
   have O13:Hid (OwnRf w13 w6.heap.size 38 (.slice (some ⟨g,0,none⟩) m m) (WR p)):=zh (ownsRow_below O12.out Q13.out)
   have B13:Hid (Below w6.heap.size w6 w13):=zh (B12.out.trans (Q13.out.mono B12.out.size));have A03:=zh (A02.out.below Q13.out A02.out.lt);have A13:=zh (A12.out.below Q13.out A12.out.lt)
   obtain ⟨gp,hgp⟩:∃ gp,gp=w12.heap.size:=⟨_,rfl⟩
   have GP6:Hid (w6.heap.size≤gp):=zh (by rw [hgp];exact B12.out.size)
   rw [←hgp] at P13 GL ⊢
   clear hgp O12 B12 A02 A12 Q13
   go_wp2_with (refine wpList_load_all zr 26 _ zr (w.heap.size+1) zr _ Tryz.underlying26 zr C _ A13.out (by rw [CS.out];exact infoPS) ?_)
   refine (PG.out _).mono ?_
   rintro e w14 ⟨rfl,hb14⟩
   have O14:Hid (OwnRf w14 w6.heap.size 38 (.slice (some ⟨g,0,none⟩) m m) (WR p)):=zh (ownsRow_below O13.out hb14)
   have P14:Hid (w14.ownsRow gp 31 1 (.slice (some ⟨gp,0,none⟩) p p) p (List.replicate p (.slice none 0 0))):=zh (ownsRow_below P13.out hb14)
   have B14:Hid (Below w6.heap.size w6 w14):=zh (B13.out.trans (hb14.mono B13.out.size))
   have E14:Hid (Each2 (fun p q=>SlB (fun _=>False) w14 p q) (List.replicate p (.slice none 0 0)) (WP p)):=zh (by rw [PG0.out OK.out];exact each_none _ _ _)
   have OKP:=zh OK.out
   clear hb14 O13 P13 B13 A03 A13
   go_wp2_with fail
   go_loopw [20] (fun vi wq=>∃ n:Nat,n≤p∧vi=.int .i64 ((n:Int) - 1)∧ok n=0∧OwnRf wq w6.heap.size 38 (.slice (some ⟨g,0,none⟩) m m) (WR n)∧(∃ D hs,Each2 (fun p q=>SlB D wq p q) hs (WP n)∧wq.ownsRow gp 31 1 (.slice (some ⟨gp,0,none⟩) p p) p hs∧∀ k,D k→w.heap.size≤k∧k < wq.heap.size∧k≠gp)∧Below w6.heap.size w6 wq) (fun vi _=>(intOf vi+1).toNat)
   case atStart=>exact ⟨p,Nat.le_refl _,rfl,OKP.out,O14.out,⟨_,_,E14.out,P14.out,fun k hk=>hk.elim⟩,B14.out⟩
   case round=>
    clear O14 P14 B14 E14 OKP OK
    obtain ⟨n,hnp,rfl,hk0,ho,⟨D,hs,he,hown,hD⟩,hbq⟩:=hrel
    have OQ:=zh ho;have BQ:=zh hbq;have OK:=zh hk0;have EQ:=zh he;have PQ:=zh hown;have DQ:=zh hD
    clear ho hbq hk0 he hown hD
    obtain ⟨hl1,hl2⟩:=INV.out n (by omega) OK.out
    have HL1:=zh hl1;have HL2:=zh hl2
    clear hl1 hl2
    rcases Nat.eq_zero_or_pos n with hn0 | hn0
    ·subst hn0
     have hy:=FIN.out OK.out
     have HY:=zh hy
     have BX:Hid (Below w.heap.size w wr):=zh (B6.out.trans (BQ.out.mono B6.out.size))
     have hz:((0:Nat):Int) - 1=-1:=rfl
     clear hy
     rw [hz]
     clear hz
     go_wp2_with fail
     go_ret3
     have hb6:=B6.out.size;have hgp:=GP6.out
     refine ⟨_,_,by rw [HY.out];rfl,by rw [HY.out];exact ownsRow_base (show wr.ownsRow w6.heap.size 38 34 (.slice (some ⟨g,0,none⟩) m m) (WR 0).length (refCs (WR 0)) from OQ.out) hb6,⟨D,hs,by rw [HY.out];exact EQ.out,by rw [HY.out];show wr.ownsRow w.heap.size 31 1 (.slice (some ⟨gp,0,none⟩) p p) (WP 0).length hs;rw [HL2.out];exact ownsRow_base PQ.out (by omega),fun k hk=>⟨(DQ.out k hk).1,(DQ.out k hk).2.1,fun e=>(DQ.out k hk).2.2 (by simpa [Value.ownBlock] using e.symm)⟩⟩,by rw [HY.out];exact RWF.out 0,BX.out⟩
    ·obtain ⟨j,rfl⟩:∃ j,n=j+1:=⟨n - 1,by omega⟩
     have hz:((j+1:Nat):Int) - 1=(j:Int):=by omega
     rw [hz]
     have hj0:(0:Int)≤(j:Int):=by omega
     have A0W:=zh (A06.out.below BQ.out A06.out.lt);have A1W:=zh (A16.out.below BQ.out A16.out.lt)
     have BX:Hid (Below w.heap.size w wr):=zh (B6.out.trans (BQ.out.mono B6.out.size))
     have hdr:∀ y,Below wr.heap.size wr y→y.rangeAt g (0+j*34) (refL (hd (j+1))):=fun y hy=>by
      have h:=slrf_cell (i:=j) ((own_slrf OQ.out (RWF.out _)).below hy) HL1.out.symm (by omega)
      rw [HDG.out] at h
      exact h
     have hft:=FTH.out j wr.drew ((BX.out).drew)
     have her:=PE.out (j+1) (by omega) hnp OK.out
     have hpd:=PD.out j (by omega) OK.out
     have hds:=refC_size (HDW.out (j+1))
     obtain ⟨HM1,hHM1⟩:∃ m,m=refC (hd (j+1)):=⟨_,rfl⟩
     have hdm:refL (hd (j+1))=HM1.toList:=by rw [hHM1];rfl
     rw [←hHM1] at hft hds
     rw [hdm] at hdr
     obtain ⟨tx,e,hke⟩:∃ a c,ft2 (j+1)=(a,c):=⟨_,_,rfl⟩
     rw [hke] at hft her hpd
     simp only at hft her hpd
     have FTI:=zh hft;have ERI:=zh her;have PDI:=zh hpd;have HDS:=zh hds;have HDR:=zh hdr
     clear hft her hpd hds hdm hdr hHM1 hke hz hn0
     go_upto_region 20 with fail
     have D0:Hid (Below wr.heap.size wr wr.drew):=zh (Below.refl _ _).drew
     refine wp_region_plan_in (fun y=>Below wr.heap.size wr y) (.take 0 (.take 1 (.take 2 (.take 3 (.take 4 (.take 5 (.take 6 (.take 7 (.take 8 (.sole 9 (.take 10 (.take 11 (.take 12 (.take 13 (.take 14 .done))))))))))))))) (by kernel_rfl) (by kernel_rfl) (by kernel_rfl) D0.out ?_
     iterate 2 ((first | refine Mem.pm1 ?_ | refine Mem.pm2 ?_ | refine Mem.pt ?_ | refine Mem.pf ?_);(simp only [Mem.zp,Mem.pb,Mem.pc]))
     refine plan_row 22 _ w.heap.size _ KC 22 zr zr zr ze (fun w' hw'=>A0W.out.below hw' A0W.out.lt) Tryz.underlying22 zr (by rw [KS.out];kernel_rfl) ?_
     (simp only [Mem.zp,Mem.pb,Mem.pc])
     refine plan_row 26 _ (w.heap.size+1) _ C 26 zr zr zr ze (fun w' hw'=>A1W.out.below hw' A1W.out.lt) Tryz.underlying26 zr (by rw [CS.out];exact infoPS) ?_
     (simp only [Mem.zp,Mem.pb,Mem.pc])
     iterate 3 ((first | refine Mem.pm1 ?_ | refine Mem.pm2 ?_ | refine Mem.pt ?_ | refine Mem.pf ?_);(simp only [Mem.zp,Mem.pb,Mem.pc]))
     refine plan_index_z 27 38 _ _ g 0 m m 34 j zr zr zr ze ze (by omega) Tryz.underlying27 infoRfP ?_
     (simp only [Mem.zp,Mem.pb,Mem.pc])
     refine plan_load_range 38 _ g (0+j*34) _ HM1 zr zr zr ze (fun w' hw'=>HDR.out w' hw') Tryz.underlying38 zr (by rw [HDS.out];exact infoRfP) ?_
     (simp only [Mem.zp,Mem.pb,Mem.pc])
     refine plan_call 60 _ _ _ (by kernel_rfl) zr zr zr (by first | exact Mem.ev_none _ | (simp only [List.map_toArray,List.map_cons,List.map_nil,Mem.ev_tmp,List.getD_cons_succ,List.getD_cons_zero] <;> rfl)) ?_
     refine (FTI.out).mono ?_
     rintro o8 w15 ⟨vt,rfl,hs15,hb15⟩
     have S15:Hid (SlB (fun k=>wr.heap.size≤k∧k < w15.heap.size) w15 vt tx):=zh (hs15.mono fun k hk hl=>⟨hk,hl⟩)
     have Q15:Hid (Below wr.heap.size wr w15):=zh (D0.out.trans (hb15.mono (Nat.le_refl _)))
     clear hs15 hb15
     refine ⟨_,rfl,Q15.out,?_⟩
     (simp only [Mem.zp,Mem.pb,Mem.pc])
     (first | refine Mem.pm1 ?_ | refine Mem.pm2 ?_ | refine Mem.pt ?_ | refine Mem.pf ?_)
     (simp only [Mem.zp,Mem.pb,Mem.pc])
     refine plan_extract _ 0 _ _ zr zr zr ze zr ?_
     (simp only [Mem.zp,Mem.pb,Mem.pc])
     refine plan_extract _ 1 _ _ zr zr zr ze zr ?_
     (simp only [Mem.zp,Mem.pb,Mem.pc])
     iterate 2 ((first | refine Mem.pm1 ?_ | refine Mem.pm2 ?_ | refine Mem.pt ?_ | refine Mem.pf ?_);(simp only [Mem.zp,Mem.pb,Mem.pc]))
     refine plan_nil ?_
     obtain ⟨at1,ct1,rfl⟩:=sl_inv S15.out.sl
     by_cases he:e=0
     ·subst he
      obtain ⟨s1,s2,s3⟩:=PDI.out rfl
      have hgl15:=(World.ownsRow.lt PQ.out gp rfl).2
      obtain ⟨g',cap',cur,ev,hgB,hgl,hcur,hfit,hset⟩:=own_set1 (i:=j) (x:=.slice at1 tx.length ct1) (ownsRow_below PQ.out Q15.out) (by omega)
      injection ev with ev1 ev2 ev3
      injection ev1 with ev1
      injection ev1 with ev1 _ _
      subst ev1
      clear ev2 ev3
      have CUR:=zh hcur;have FIT:=zh hfit;have SET:=zh hset;have S1:=zh s1;have S2':=zh s2;have S3:=zh s3;have GPL:=zh hgl15
      have hjp:(j:Int) < (p:Int):=by omega
      obtain ⟨nt,hnt⟩:∃ nt,nt=tx.length:=⟨_,rfl⟩
      rw [←hnt] at SET S15 ⊢
      clear s1 s2 s3 hgB hgl hcur hfit hset hgl15 hnt
      go_wp2_with (refine Mem.wpList_store_one zr 31 _ _ zr zr gp j (.slice at1 nt ct1) zr zr zr infoSl14 _ 31 CUR.out FIT.out ?_;intro w16 ha16 ho16 hb16;have PN:=zh (SET.out w16 ha16);have H16:=zh ho16;have BN:Hid (Below w6.heap.size w6 w16):=zh (hb16 _ _ (BQ.out.trans (Q15.out.mono BQ.out.size)) (by have:=B6.out.size;have:=GP6.out;omega));have Z16:Hid (w15.heap.size≤w16.heap.size):=zh (hb16 0 w15 (Below.refl _ _) (Nat.zero_le _)).size;clear ha16 ho16 hb16)
      have ON:Hid (OwnRf w16 w6.heap.size 38 (.slice (some ⟨g,0,none⟩) m m) (WR j)):=zh (by
       rw [S2'.out]
       exact ownsRow_keep (ownsRow_below OQ.out Q15.out) fun k hk=>H16.out k (by
        have:k=g:=by simpa [Value.ownBlock] using hk.symm
        have:=GL.out;omega))
      have EN:Hid (Each2 (fun p q=>SlB (fun k=>D k∨(wr.heap.size≤k∧k < w15.heap.size)) w16 p q) (hs.set j (.slice at1 nt ct1)) (WP j)):=zh (by
       rw [←S3.out]
       have z15:=Q15.out.size
       refine Each2.set j (EQ.out.mono fun a q hx=>?_) ?_
       ·exact ((hx.keep Q15.out.size fun k _ hl=>Q15.out.block k hl).keep Z16.out fun k hd _=>H16.out k (DQ.out k hd).2.2).mono fun k hd _=>.inl hd
       ·exact (S15.out.keep Z16.out fun k hk _=>H16.out k (by have:=GPL.out;omega)).mono fun k hk _=>.inr hk)
      have DN:Hid (∀ k,(D k∨(wr.heap.size≤k∧k < w15.heap.size))→w.heap.size≤k∧k < w16.heap.size∧k≠gp):=zh fun k hk=>by
       have z15:=Q15.out.size;have z16:=Z16.out;have gl:=GPL.out;have zx:=BX.out.size
       rcases hk with h | h
       ·have:=DQ.out k h
        exact ⟨this.1,by omega,this.2.2⟩
       ·exact ⟨by omega,by omega,by omega⟩
      go_roundw
      case rel=>exact ⟨j,by omega,rfl,S1.out,ON.out,⟨_,_,EN.out,PN.out,DN.out⟩,BN.out⟩
      case measure=>simp [intOf]
     ·have hy:=ERI.out he
      have HY:=zh hy
      have hne:¬ e=0:=he
      have BX15:Hid (Below w.heap.size w w15):=zh (BX.out.trans (Q15.out.mono BX.out.size))
      clear hy he
      go_wp2_with fail
      go_ret3
      exact ⟨.slice none 0 0,.slice none 0 0,by rw [HY.out];rfl,by rw [HY.out];exact World.ownsRow_nil _ _ _ _,⟨fun _=>False,[],by rw [HY.out];trivial,by rw [HY.out];exact World.ownsRow_nil _ _ _ _,fun _ h=>h.elim⟩,by rw [HY.out];exact fun r hr=>(by cases hr),BX15.out⟩
end Sha
end Go.Proofs.YtlhnegbjoncieaaGreatDoor
