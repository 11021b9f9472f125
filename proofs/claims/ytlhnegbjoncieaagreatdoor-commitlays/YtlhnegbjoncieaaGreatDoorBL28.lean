/- My own texts, merged. -/
import Derived.Test.YtlhnegbjoncieaaGreatDoorBL24
import Derived.Test.YtlhnegbjoncieaaGreatDoorBL20
import Derived.Test.YtlhnegbjoncieaaGreatDoorBL21
import Derived.Test.YtlhnegbjoncieaaGreatDoorBL04
import Derived.Test.YtlhnegbjoncieaaGreatDoorBL16
set_option maxRecDepth 100000
set_option maxHeartbeats 2000000
namespace Go.Proofs.YtlhnegbjoncieaaGreatDoor
namespace Sha
open Go.RowKit Mem
theorem Wl.below {w w':World} {v:Value} {l:List (BitVec 32)} (h:Wl w v l) (hb:Below w.heap.size w w'):Wl w' v l:=by
 obtain ⟨g,c,rfl,hg,hc⟩:=h
 exact ⟨g,c,rfl,Nat.lt_of_lt_of_le hg hb.size,fun i hi=>(hb.cell (p:=⟨g,i,none⟩) hg).trans (hc i hi)⟩
end Sha
end Go.Proofs.YtlhnegbjoncieaaGreatDoor
namespace Go.Proofs.YtlhnegbjoncieaaGreatDoor
namespace Sha
open Go.RowKit Mem
set_option maxRecDepth 100000
theorem parseN_ok {p:Lb8} {z:Int} {K:List RefV} (h:parseN p z=(K,0)):layN K=(p,0)∧(K.length:Int)=z:=by
 unfold parseN at h
 split at h
 ·injection h with _ h;cases h
 ·split at h
  ·injection h with _ h;cases h
  ·rename_i hc
   refine ⟨allN_lay h,?_⟩
   rw [h] at hc
   exact Classical.byContradiction fun x=>hc ⟨rfl,x⟩
end Sha
end Go.Proofs.YtlhnegbjoncieaaGreatDoor
namespace Go.Proofs.YtlhnegbjoncieaaGreatDoor
namespace Sha
open Go.RowKit Mem
structure Apart (R:StAcc) (b:Nat) (s:St6) (v:Value) (l:Lb8) (w wr:World):Prop where
 h:∃ F G,R F b wr s∧(∀ k,F k→w.heap.size≤k∧¬ G k)∧SlB G wr v l∧∀ k,G k→k < wr.heap.size
 b:Below w.heap.size w wr
theorem Apart.sl {R:StAcc} {b:Nat} {s:St6} {v:Value} {l:Lb8} {w wr:World} (h:Apart R b s v l w wr):Sl wr v l:=by
 obtain ⟨_,_,_,_,h,_⟩:=h.h;exact h.sl
end Sha
end Go.Proofs.YtlhnegbjoncieaaGreatDoor
namespace Go.Proofs.YtlhnegbjoncieaaGreatDoor
namespace Sha
open Go.RowKit Mem
structure Kept (E:Foot) (w w':World):Prop where
 size:w.heap.size≤w'.heap.size
 block:∀ k,E k→w'.heap[k]?=w.heap[k]?
section
end
end Sha
end Go.Proofs.YtlhnegbjoncieaaGreatDoor
namespace Go.Proofs.YtlhnegbjoncieaaGreatDoor
namespace Sha
open Go.RowKit Mem
set_option maxRecDepth 100000
theorem isPlace_any (z:Int) (w:World):Calls Tryz.prog 112 #[.int .i64 z] w fun e w'=>e=.returned (.bool (decide (0≤z∧z≤1)))∧w'=w:=by
 by_cases h1:0≤z
 ·by_cases h6:z≤1
  ·rw [decide_eq_true ⟨h1,h6⟩]
   go_enter Tryz.func112,Tryz.ntmps112
   go_wp2_with fail
   go_ret
   exact ⟨rfl,rfl⟩
  ·rw [decide_eq_false (fun h=>h6 h.2)]
   go_enter Tryz.func112,Tryz.ntmps112
   go_wp2_with fail
   go_ret
   exact ⟨rfl,rfl⟩
 ·rw [decide_eq_false (fun h=>h1 h.1)]
  go_enter Tryz.func112,Tryz.ntmps112
  go_wp2_with fail
  go_ret
  exact ⟨rfl,rfl⟩
theorem body_first (L:List RefV):([]:Lb8)++nbytes L.length 1=bodyN L 0:=by
 simp [bodyN,nbytes,nbyte,List.range_succ]
theorem play13_many (L:List RefV) (v:Value) (w:World) (hv:SlRf w v L) (hw:∀ r∈L,r.Wf) (h1:1≤L.length) (h6:L.length≤6):Calls Tryz.prog 89 #[v] w (SealEnd w (layN L).1 (layN L).2):=by
 have hgood:=layN_good h1 h6
 have hbad:=fun i hi h=>layN_place (L:=L) i hi h
 obtain ⟨Y,hY⟩:∃ Y,Y=layN L:=⟨_,rfl⟩
 rw [←hY] at hgood hbad ⊢
 have hgw:=fun i=>getD_wf hw i
 have hrl:=fun i wx=>play9_any (L.getD i zref) (hgw i) wx
 have hrll:=fun i=>layRf_length (hgw i)
 have hbl:=fun i (hi:i≤L.length)=>bodyN_length L i hw hi
 have hbs:=fun i (hi:i < L.length)=>bodyN_succ L i hi
 have hfill:∀ u wx,Sl wx u (bodyN L L.length)→Calls Tryz.prog 114 #[u,.int .i64 256] wx (TwoOwn wx (bodyN L L.length++List.replicate (256 - (1+37*L.length)) 0) 0):=fun u wx h=>by
  have hf:=pfill_own (bodyN L L.length) 256 u wx h (by rw [hbl _ (Nat.le_refl _)];omega) (by decide)
  unfold fillB at hf
  rw [hbl _ (Nat.le_refl _)] at hf
  exact hf
 have hnum:=fun u wx h=>num1_any [] L.length u wx h (by decide) (by omega)
 rw [body_first] at hnum
 obtain ⟨F,hF⟩:∃ F,F=bodyN L L.length++List.replicate (256 - (1+37*L.length)) 0:=⟨_,rfl⟩
 rw [←hF] at hgood hfill
 have hb0:(bodyN L 0).length=1:=hbl 0 (Nat.zero_le _)
 obtain ⟨a,c,rfl⟩:=hv.hd
 obtain ⟨n,hn⟩:∃ n,n=L.length:=⟨_,rfl⟩
 rw [←hn] at hv h1 h6 hgood hbad hbl hbs hfill hnum ⊢
 have im:=fun wx=>isMany_any (n:Int) wx
 rw [decide_eq_true (⟨by omega,by omega⟩:1≤(n:Int)∧(n:Int)≤6)] at im
 have cv:=fun wx=>conv_iu64 (n:Int) n (by omega) wx
 have zsz:(refC zref).size=34:=refC_size zref_wf
 have hx0:=zeroRfP
 obtain ⟨Z,hZ⟩:∃ Z,Z=refC zref:=⟨_,rfl⟩
 rw [←hZ] at zsz hx0
 have HV:=zh hv;have GOOD:=zh hgood;have BAD:=zh hbad;have GW:=zh hgw;have RL:=zh hrl;have RLL:=zh hrll;have HN:=zh hn;have BL:=zh hbl;have BS:=zh hbs;have FILL:=zh hfill;have NUM:=zh hnum;have ZSZ:=zh zsz;have HX:=zh hx0;have IM:=zh im;have CV:=zh cv;have B0:=zh hb0
 clear hv hgood hbad hgw hrl hrll hn hbl hbs hfill hnum hF hY hw zsz hx0 hZ im cv hb0
 go_enter Tryz.func89,Tryz.ntmps89
 go_wp2_with fail
 refine (IM.out _).mono ?_
 rintro e w1 ⟨rfl,rfl⟩
 go_wp2_with (refine wpList_conv zr _ _ _ _ (.int .u64 (n:Int)) zr zr CV.out ?_)
 refine (NUM.out _ _ (sl_none _)).mono ?_
 rintro e w3 ⟨g,rfl,ha,hg,hb⟩
 have B3:=zh hb
 have O3:Hid (OwnB w3 w1.heap.size (.slice (some ⟨g,0,none⟩) 1 1) (bodyN L 0)):=zh (by
  have h:=own_fulls ha hg (by rw [B0.out];decide)
  rw [B0.out] at h
  exact h)
 rw [B0.out]
 clear ha hg hb
 go_upto_region 5 with fail
 go_loopw [4,17] (fun vb vi wr=>∃ i:Nat,i≤n∧vi=.int .i64 (i:Int)∧OwnB wr w1.heap.size vb (bodyN L i)∧(∀ k,k < i→plOk (L.getD k zref)=true)∧Below w1.heap.size w1 wr) (fun _ vi _=>n - (intOf vi).toNat)
 case atStart=>exact ⟨0,by omega,rfl,O3.out,fun k hk=>by omega,B3.out⟩
 case round=>
  obtain ⟨i,hi,rfl,ho,hpl,hbw⟩:=hrel
  have OW:=zh ho;have BW:=zh hbw;have PL:=zh hpl;have VW:=zh (HV.out.below hbw)
  clear ho hbw hpl
  by_cases hlt:i < n
  ·have hlt2:(i:Int) < (n:Int):=by omega
   obtain ⟨b,o,ea,_,hr⟩:=slrf_at (i:=i) VW.out HN.out hlt
   subst ea
   have hok:plOk (L.getD i zref)=decide (0≤(L.getD i zref).pl∧(L.getD i zref).pl≤1):=rfl
   have hwi:=GW.out i
   have hrli:=RL.out i
   have hrll:=RLL.out i
   have hbd:=BAD.out i hlt
   have hbs:=BS.out i hlt
   have hbl:=BL.out i hi
   obtain ⟨r,hr0⟩:∃ r,r=L.getD i zref:=⟨_,rfl⟩
   have hgi:plOk r=true→∀ k,k < i+1→plOk (L.getD k zref)=true:=fun h k hk=>by
    rcases Nat.lt_or_ge k i with x | x
    ·exact PL.out k x
    ·rw [show k=i by omega,←hr0];exact h
   rw [←hr0] at hr hok hwi hrli hrll hbd hbs
   have rc0:=ref0 r
   have ip:=fun wx=>isPlace_any r.pl wx
   rw [←hok] at ip
   obtain ⟨pl,hp⟩:∃ pl,pl=r.pl:=⟨_,rfl⟩
   rw [←hp] at rc0 ip
   obtain ⟨q,hq⟩:∃ q,q=plOk r:=⟨_,rfl⟩
   rw [←hq] at ip hbd hgi
   have msz:=refC_size hwi;have mone:=refC_one r
   obtain ⟨M,hM⟩:∃ M,M=refC r:=⟨_,rfl⟩
   have hrg:wr.rangeAt b (o+i*34) M.toList:=by rw [hM];exact hr
   rw [←hM] at rc0 msz mone hrli
   have RLI:=zh hrli;have HBD:=zh hbd;have HGI:=zh hgi;have HRL:=zh hrll;have HBS:=zh hbs;have HBL:=zh hbl;have RC0:=zh rc0;have MSZ:=zh msz;have MONE:=zh mone;have RG:=zh hrg;have IP:=zh ip
   have hb5:Below wr.heap.size wr (wr.alloc (.cells M 38)):=(Below.refl _ _).alloc (Nat.le_refl _) _
   have A5:=zh (at_new wr M 38);have O5:=zh (ownsRow_below OW.out hb5);have B5:=zh (BW.out.alloc BW.out.size (.cells M 38))
   clear hr hok hrli hrll hbd hbs hbl hr0 hgi hp rc0 msz mone hM hrg hb5 hwi ip hq
   have hx:=HX.out
   go_upto_region 7 with (first
    | (refine wpList_load_mid zr 38 _ zr b (o+i*34) zr M.toList _ RG.out Tryz.underlying38 zr (by rw [infoRfP,Array.length_toList,MSZ.out]) ?_;rw [Array.toArray_toList])
    | (refine wpList_store_new zr 38 _ _ zr zr M _ _ zr zr (by rw [MSZ.out];exact infoRfP) (by rw [MSZ.out,ZSZ.out]) MONE.out ?_))
   clear hx
   obtain ⟨l,hl⟩:∃ l,l=wr.heap.size:=⟨_,rfl⟩
   rw [←hl] at A5 ⊢
   clear hl
   generalize (wr.alloc (.cells M 38))=w5 at *
   have cp:w5.cell? ⟨l,0,none⟩=some (.int .i64 pl):=(A5.out.cell 0).trans RC0.out
   go_wp2_with fail
   refine (IP.out _).mono ?_
   rintro e w6 ⟨rfl,rfl⟩
   clear cp
   cases q
   ·have HY:=zh (HBD.out rfl)
    go_wp2_with fail
    go_ret2
    exact ⟨_,by rw [HY.out];rfl,by rw [HY.out];exact sl_none _,B5.out⟩
   ·have HG2:=zh (HGI.out rfl)
    go_wp2_with (refine wpList_load_all zr 38 _ zr l zr _ Tryz.underlying38 zr M _ A5.out (by rw [MSZ.out];exact infoRfP) ?_)
    refine (RLI.out _).mono ?_
    rintro e w7 ⟨v7,rfl,hs7,hb7⟩
    have S7:=zh hs7;have O7:=zh (ownsRow_below O5.out hb7);have B7:Hid (Below w1.heap.size w1 w7):=zh (B5.out.trans (hb7.mono B5.out.size))
    clear hs7 hb7
    go_wp2_with (at_builtin;go_loud (refine wpList_append_bytes zr _ _ zr w1.heap.size u4 v7 (bodyN L i) (layRf r) zr O7.out zr S7.out (by rw [HBL.out,HRL.out];omega) B7.out.size ?_);intro v9 w9 ho9 _ hb9;have O9:Hid (OwnB w9 w1.heap.size v9 (bodyN L (i+1))):=zh (by rw [HBS.out];exact ho9);have B9:=zh (B7.out.trans hb9);clear ho9 hb9)
    go_roundw
    case rel=>exact ⟨i+1,by omega,by go_num,O9.out,HG2.out,B9.out⟩
    case measure=>simp [intOf];omega
  ·have hin:i=n:=by omega
   subst hin
   have hge:¬ (i:Int) < (i:Int):=by omega
   have HY:=zh (GOOD.out PL.out)
   have SW:=zh OW.out.sl
   go_wp2_with fail
   refine (FILL.out _ _ SW.out).mono ?_
   rintro e w6 ⟨g6,rfl,ha6,_,hb6⟩
   have S6:=zh (at_sl ha6 rfl);have B6:Hid (Below w1.heap.size w1 w6):=zh (BW.out.trans (hb6.mono BW.out.size))
   clear ha6 hb6
   go_wp2_with fail
   go_ret2
   exact ⟨_,by rw [HY.out];rfl,by rw [HY.out];exact S6.out,B6.out⟩
theorem play13_any (L:List RefV) (v:Value) (w:World) (hv:SlRf w v L) (hw:∀ r∈L,r.Wf):Calls Tryz.prog 89 #[v] w (SealEnd w (layN L).1 (layN L).2):=by
 by_cases h:1≤L.length∧L.length≤6
 ·exact play13_many L v w hv hw h.1 h.2
 ·have hy:layN L=([],1):=layN_few (by omega)
  obtain ⟨Y,hY⟩:∃ Y,Y=layN L:=⟨_,rfl⟩
  rw [←hY] at hy ⊢
  obtain ⟨a,c,rfl⟩:=hv.hd
  obtain ⟨n,hn⟩:∃ n,n=L.length:=⟨_,rfl⟩
  rw [←hn] at h ⊢
  have im:=isMany_any (n:Int) w
  rw [decide_eq_false (fun g:1≤(n:Int)∧(n:Int)≤6=>h (by omega))] at im
  have HY:=zh hy;have IM:=zh im
  clear hy hY hv hw h hn im
  go_enter Tryz.func89,Tryz.ntmps89
  go_wp2_with fail
  refine IM.out.mono ?_
  rintro e w1 ⟨rfl,rfl⟩
  go_wp2_with fail
  go_ret2
  exact ⟨_,by rw [HY.out];rfl,by rw [HY.out];exact sl_none _,Below.refl _ _⟩
theorem pparse13_own (p:Lb8) (z:Int) (v:Value) (w:World) (hv:Sl w v p) (hl:p.length≤1000):Calls Tryz.prog 115 #[v,.int .i64 z] w (RfOwn 38 w (parseN p z).1 (parseN p z).2):=by
 have al:=ptake_any p v w hv hl
 have hwf:=allN_wf p
 have hle:=allN_le p
 have herr:=allN_err p
 have hP:parseN p z=if z < 1∨6 < z then ([],1) else if (allN p).2=0∧((allN p).1.length:Int)≠z then ([],9) else allN p:=rfl
 obtain ⟨Y,hY⟩:∃ Y,Y=parseN p z:=⟨_,rfl⟩
 rw [←hY] at hP ⊢
 obtain ⟨L,hL⟩:∃ L,L=(allN p).1:=⟨_,rfl⟩
 obtain ⟨e,he⟩:∃ e,e=(allN p).2:=⟨_,rfl⟩
 have hpair:allN p=(L,e):=by rw [hL,he]
 rw [hpair] at al hwf hle herr hP
 simp only at al hwf hle herr hP
 by_cases hz:1≤z∧z≤6
 ·have im:=isMany_any z w
  rw [decide_eq_true hz] at im
  obtain ⟨i2,hi2,hz2,hs2,hb2⟩:=info_parts rfRP
  have hxt:=zeroTk
  obtain ⟨T,hT⟩:∃ Z,Z=tkC (pad6 []) 0:=⟨_,rfl⟩
  have ts:T.size=205:=by rw [hT];exact tkC_size (pad6_wf (fun _ h=>nomatch h)) (pad6_len (by decide))
  rw [←hT] at hxt
  unfold TkE at al
  have cm:(tkC (pad6 L) L.length)[204]?=some (.int .i64 (L.length:Int)):=tkC_many (pad6_wf hwf) (pad6_len hle)
  have cs:(tkC (pad6 L) L.length).size=205:=tkC_size (pad6_wf hwf) (pad6_len hle)
  have co:(tkC (pad6 L) L.length).all (·.oneCell')=true:=tkC_one
  have hsl:∀ wx b t,At wx b (tkC (pad6 L) L.length) t→SlRf wx (.slice (some ⟨b,0,none⟩) 6 6) (pad6 L):=fun wx b t h=>by
   have g:=tk_sl (m:=6) (c:=6) h (pad6_wf hwf) (pad6_len hle) (by decide)
   have e6:(pad6 L).take 6=pad6 L:=List.take_of_length_le (by rw [pad6_len hle];decide)
   rwa [e6] at g
  have hpl:=pad6_len hle
  have hpw:=pad6_wf hwf
  have hpt:=pad6_take L
  obtain ⟨C,hC⟩:∃ C,C=tkC (pad6 L) L.length:=⟨_,rfl⟩
  rw [←hC] at al cm cs co hsl
  obtain ⟨K,hK⟩:∃ K,K=pad6 L:=⟨_,rfl⟩
  rw [←hK] at hsl hpl hpw hpt
  obtain ⟨n,hn⟩:∃ n,n=L.length:=⟨_,rfl⟩
  rw [←hn] at cm hP hpt hle
  have AL:=zh al;have WF:=zh hwf;have HP:=zh hP;have ERR:=zh herr;have IM:=zh im;have TS:=zh ts;have CM:=zh cm;have CS:=zh cs;have CO:=zh co;have HSL:=zh hsl;have HPL:=zh hpl;have HPW:=zh hpw;have HPT:=zh hpt;have HN:=zh hn
  have I2:=zh hi2;have Z2:=zh hz2;have S2:=zh hs2;have B2i:=zh hb2
  clear al hwf hP herr hY hL he hpair hv im ts cm cs co hsl hpl hpw hpt hC hK hT hi2 hz2 hs2 hb2 hl hn
  have hx:=hxt
  clear hxt
  go_enter Tryz.func115,Tryz.ntmps115
  go_wp2_with fail
  refine IM.out.mono ?_
  rintro e1 w1 ⟨rfl,rfl⟩
  go_wp2_with fail
  refine (AL.out).mono ?_
  rintro e2 w2 ⟨rfl,hb2⟩
  have B2:Hid (Below w1.heap.size w1 (w2.alloc (.cells C 221))):=zh (hb2.alloc hb2.size _)
  have C2:=zh (at_new w2 C 221)
  clear hb2
  go_upto_region 4 with (refine wpList_store_new zr 221 _ _ zr zr C _ _ zr zr (by rw [CS.out];exact infoTk) (by rw [TS.out,CS.out]) CO.out ?_)
  clear hx
  obtain ⟨l,hl⟩:∃ l,l=w2.heap.size:=⟨_,rfl⟩
  rw [←hl] at C2 ⊢
  clear hl
  generalize (w2.alloc (.cells C 221))=w3 at *
  rcases ERR.out with h0 | ⟨h0,he⟩
  ·subst h0
   have cm:w3.cell? ⟨l,204,none⟩=some (.int .i64 (n:Int)):=(C2.out.cell 204).trans CM.out
   by_cases hnz:(n:Int)=z
   ·have hy:Y=(L,0):=by rw [HP.out,if_neg (by omega),if_neg (fun x=>x.2 hnz)]
    have HY:=zh hy
    clear hy
    subst hnz
    have h1n:0 < n:=by omega
    go_upto_region 9 with (refine wpList_make_full _ zr _ _ 27 zr w1.heap.size 38 i2 (.agg (refC zref)) 34 Tryz.underlying27 I2.out Z2.out S2.out .i64 .i64 (n:Int) (n:Int) n zr zr zr zr (by rw [B2i.out];omega) (by simp [maxLen];omega) B2.out.size ?_;intro w4 ho4 hg4;have O4:=zh ho4;have B4:Hid (Below w1.heap.size w1 w4):=zh (B2.out.grown hg4 B2.out.size (fun k e=>by cases e));have C4:=zh (C2.out.below ((Below.refl w3.heap.size w3).grown hg4 (Nat.le_refl _) (fun k e=>by cases e)) C2.out.lt);have G4:=zh B2.out.size;clear ho4 hg4)
    clear cm
    obtain ⟨g,hg⟩:∃ g,g=w3.heap.size:=⟨_,rfl⟩
    rw [←hg] at O4 G4 ⊢
    clear hg
    have SL4:=zh (HSL.out _ _ _ C4.out)
    go_upto_region 10 with (first
     | (refine wpList_cut_all zr 219 _ zr 6 38 Tryz.underlying219 34 infoRfP l 0 zr ?_)
     | (refine wpList_copy_rfn zr _ _ 27 27 zr 38 Tryz.underlying27 infoRfP w1.heap.size 38 n g n _ O4.out zr (some ⟨l,0,none⟩) 6 6 zr K SL4.out HPL.out.symm hle h1n HPW.out ?_;intro w5 ho5 hz5 hh5 hb5;have B5:Hid (Below w1.heap.size w1 w5):=zh (hb5 _ _ B4.out G4.out);have O5:Hid (OwnRf w5 w1.heap.size 38 (.slice (some ⟨g,0,none⟩) n n) L):=zh (by rw [HPT.out] at ho5;show w5.ownsRow _ _ _ _ L.length _;rw [←HN.out];exact ho5);clear ho5 hz5 hh5 hb5))
    go_wp2_with fail
    go_ret2
    exact ⟨_,by rw [HY.out];rfl,by rw [HY.out];exact O5.out,B5.out⟩
   ·have hy:Y=([],9):=by rw [HP.out,if_neg (by omega),if_pos ⟨rfl,hnz⟩]
    have HY:=zh hy
    clear hy
    go_wp2_with fail
    go_ret2
    exact ⟨_,by rw [HY.out];rfl,by rw [HY.out];exact World.ownsRow_nil _ _ _ _,B2.out⟩
  ·have hne:¬ e=0:=by rcases he with h | h <;> omega
   have hy:Y=([],e):=by rw [HP.out,if_neg (by omega),if_neg (fun x=>hne x.1),h0]
   have HY:=zh hy
   clear hy he h0
   go_wp2_with fail
   go_ret2
   exact ⟨_,by rw [HY.out];rfl,by rw [HY.out];exact World.ownsRow_nil _ _ _ _,B2.out⟩
 ·have im:=isMany_any z w
  rw [decide_eq_false hz] at im
  have hy:Y=([],1):=by rw [hP,if_pos (by omega)]
  have HY:=zh hy;have IM:=zh im
  clear hy im al hwf hP herr hY hL he hpair hv hl hle hz
  go_enter Tryz.func115,Tryz.ntmps115
  go_wp2_with fail
  refine IM.out.mono ?_
  rintro e1 w1 ⟨rfl,rfl⟩
  go_wp2_with fail
  go_ret2
  exact ⟨_,by rw [HY.out];rfl,by rw [HY.out];exact World.ownsRow_nil _ _ _ _,Below.refl _ _⟩
end Sha
end Go.Proofs.YtlhnegbjoncieaaGreatDoor
