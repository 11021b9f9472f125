/- My own texts, merged. -/
import Derived.Test.YtddjdaocdfkgeaaGreatDoorBQ09
import Derived.Test.YtddjdaocdfkgeaaGreatDoorBQ08
import Derived.Great.Walk
import Derived.Test.YtddjdaocdfkgeaaGreatDoorBQ11
import Derived.Test.YtddjdaocdfkgeaaGreatDoorBQ01
set_option maxRecDepth 100000
set_option maxHeartbeats 2000000
namespace Go.Proofs.YtddjdaocdfkgeaaGreatDoor
namespace Sha
open Go.RowKit Mem
set_option maxRecDepth 100000
theorem sl_page {w:World} {b o cap i:Nat} {p:Lb8} (h:Sl w (.slice (some ⟨b,o,none⟩) 256 cap) p) (hp:p.length=256) (hi:i < 6):Sl w (.slice (some ⟨b,o+(1+37*i),none⟩) 37 (cap - (1+37*i))) (pieceN p i):=by
 obtain ⟨a,c,e,hc,hr⟩:=h
 obtain ⟨b',o',ea,hlt,hcell⟩:=hr (by intro e0;rw [e0] at hp;simp at hp)
 injection e with e1 e2 e3
 subst e1 e3
 injection ea with ea
 injection ea with ea1 ea2
 subst ea1 ea2
 have hl:=piece_length p i hp hi
 refine ⟨_,_,by rw [hl],by rw [hl];omega,fun _=>⟨b,_,rfl,hlt,fun j hj=>?_⟩⟩
 rw [hl] at hj
 have hx:=hcell (1+37*i+j) (by omega)
 rw [show o+(1+37*i)+j=o+(1+37*i+j) by omega,hx]
 unfold pieceN
 have e4:((p.drop (1+37*i)).take 37).getD j 0=p.getD (1+37*i+j) 0:=by
  rw [List.getD_eq_getElem?_getD,List.getElem?_take,if_pos hj,List.getElem?_drop,←List.getD_eq_getElem?_getD]
 rw [e4]
theorem sl_some {w:World} {v:Value} {p:Lb8} (h:Sl w v p) (hne:0 < p.length):∃ b o c,v=.slice (some ⟨b,o,none⟩) p.length c∧p.length≤c∧b < w.heap.size∧∀ i,i < p.length→w.cell? ⟨b,o+i,none⟩=some (.int .u8 ((p.getD i 0).toNat:Int)):=by
 obtain ⟨a,c,e,hc,hr⟩:=h
 obtain ⟨b,o,ea,hlt,hcell⟩:=hr (by intro e0;rw [e0] at hne;simp at hne)
 exact ⟨b,o,c,by rw [e,ea],hc,hlt,hcell⟩
theorem parse_piece (p:Lb8) (i:Nat) (h:p.length=256) (hi:i < 6):parseRf (pieceN p i)=if 1 < ((pieceN p i).getD 0 0).toNat then (zref,1) else (rfOf (pieceN p i),0):=by
 unfold parseRf
 have hl:=piece_length p i h hi
 by_cases g:1 < ((pieceN p i).getD 0 0).toNat
 ·rw [if_pos (.inr g),if_pos g]
 ·rw [if_neg (by rintro (x | x);exact x hl;exact g x),if_neg g]
theorem allN_bad (p:Lb8) (hp:p.length=256) (i:Nat) (hi:i < manyN p) (h:1 < ((pieceN p i).getD 0 0).toNat):allN p=([],9):=by
 unfold allN
 rw [if_neg (fun x=>x hp),bad_piece p i _ hi h,if_neg (by intro e;injection e with _ e;cases e)]
theorem rallN_short (p:Lb8) (v:Value) (w:World) (hv:Sl w v p) (_hl:p.length≤1000) (h:p.length≠256):Calls Tryz.prog 74 #[v] w (RfOwn 57 w (allN p).1 (allN p).2):=by
 rw [show allN p=([],1) from if_pos h]
 obtain ⟨a,c,rfl⟩:=sl_inv hv
 obtain ⟨n,hn⟩:∃ n,n=p.length:=⟨_,rfl⟩
 rw [←hn] at h _hl ⊢
 have h1:((n:Int) == 256)=false:=by
  have:¬ (n:Int)=256:=by omega
  simpa using this
 clear hv hn h
 go_enter Tryz.func74,Tryz.ntmps74
 go_wp2_with fail
 go_ret2
 exact ⟨_,rfl,World.ownsRow_nil _ _ _ _,Below.refl _ _⟩
theorem rallN_page (p:Lb8) (v:Value) (w:World) (hv:Sl w v p) (hp:p.length=256):Calls Tryz.prog 74 #[v] w (RfOwn 57 w (allN p).1 (allN p).2):=by
 have hbad:=fun i hi h=>allN_bad p hp i hi h
 have hfin:allN p=if layN (refsN p (manyN p))=(p,0) then (refsN p (manyN p),0) else ([],9):=by unfold allN;rw [if_neg (fun x=>x hp)]
 obtain ⟨Y,hY⟩:∃ Y,Y=allN p:=⟨_,rfl⟩
 rw [←hY] at hbad hfin ⊢
 obtain ⟨b,o,c,rfl,hc,hlt,hcell⟩:=sl_some hv (by omega)
 rw [hp] at hv hc ⊢
 have hx0:=hcell 0 (by omega)
 obtain ⟨x,hx⟩:∃ x,x=(p.getD 0 0).toNat:=⟨_,rfl⟩
 rw [←hx] at hx0
 have hx9:x < 256:=by rw [hx];exact (p.getD 0 0).isLt
 obtain ⟨K,hK⟩:∃ K,K=manyN p:=⟨_,rfl⟩
 have hKx:K=min x 6:=by rw [hK,hx];rfl
 rw [←hK] at hbad hfin
 have hpc:=fun i hi=>parse_piece p i hp hi
 have hrp:=fun i hi wx (h:Sl wx (.slice (some ⟨b,o,none⟩) 256 c) p)=>rparseRf_any (pieceN p i) _ wx (sl_page (i:=i) h hp hi) (by rw [piece_length p i hp hi];decide)
 have hwf:=fun n hn=>refsN_wf p n hp hn
 have hrs:=fun n=>refsN_succ p n
 have hrl:=fun n=>refsN_length p n
 have hc256:256≤c:=hc
 have FIN:=zh hfin;have BAD:=zh hbad;have HV:=zh hv;have PC:=zh hpc;have RP:=zh hrp;have WF:=zh hwf;have RS:=zh hrs;have RL:=zh hrl;have X0:=zh hx0;have LT:=zh hlt;have HK:=zh hKx;have HP:=zh hp
 have hK6:K≤6:=by omega
 clear hfin hbad hv hpc hrp hwf hrs hrl hx0 hlt hcell hKx hK hx hc hY hp
 go_enter Tryz.func74,Tryz.ntmps74
 go_wp2_with fail
 go_loopw [4,5] (fun vo vi wr=>∃ i:Nat,i≤K∧vi=.int .i64 (i:Int)∧wr.ownsRow w.heap.size 57 34 vo i (refCs (refsN p i))∧Below w.heap.size w wr) (fun _ vi _=>K - (intOf vi).toNat)
 case atStart=>exact ⟨0,by omega,rfl,World.ownsRow_nil _ _ _ _,Below.refl _ _⟩
 case round=>
  obtain ⟨i,hi,rfl,ho,hbw⟩:=hrel
  have OW:=zh ho;have BW:=zh hbw;have VW:=zh (HV.out.below hbw)
  have c0:wr.cell? ⟨b,o+0,none⟩=some (.int .u8 (x:Int)):=(hbw.cell (p:=⟨b,o+0,none⟩) LT.out).trans X0.out
  have c00:wr.cell? ⟨b,o,none⟩=some (.int .u8 (x:Int)):=c0
  clear ho hbw
  by_cases hik:i < K
  ·have hi6:i < 6:=by omega
   have hix:i < x:=by have:=HK.out;omega
   have hix2:(i:Int) < (x:Int):=by omega
   have hi62:(i:Int) < 6:=by omega
   have hpc:=PC.out i hi6
   have hbd:=BAD.out i hik
   have rpi:=RP.out i hi6 wr VW.out
   have hrs:=RS.out i
   have hwi:(rfOf (pieceN p i)).Wf:=rfOf_wf _ (piece_length p i HP.out hi6)
   obtain ⟨s,hs⟩:∃ s,s=pieceN p i:=⟨_,rfl⟩
   rw [←hs] at hpc hbd rpi hrs hwi
   have HRS:=zh hrs;have HWI:=zh hwi;have HBD:=zh hbd
   clear hrs hbd hs
   by_cases g1:1 < (s.getD 0 0).toNat
   ·rw [hpc,if_pos g1] at rpi
    have hy:=HBD.out g1
    have HY:=zh hy;have RPI:=zh rpi
    have hx:=zeroRfR
    have ZW:Hid (zref.Wf):=zh zref_wf
    obtain ⟨Z,hZ⟩:∃ Z,Z=refC zref:=⟨_,rfl⟩
    have zs:Z.size=34:=by rw [hZ];exact refC_size zref_wf
    have zo:Z.all (·.oneCell')=true:=by rw [hZ];exact refC_one zref
    rw [←hZ] at hx RPI
    have ZS:=zh zs;have ZO:=zh zo
    clear hy rpi hpc hwi g1 zs zo hZ ZW
    go_wp2_with (refine Mem.wpList_slice_mid zr 40 _ _ _ zr 5 Tryz.underlying40 infoB b o 256 c (1+37*i) (38+37*i) zr (by exact congrArg (Value.int .i64) (by omega)) (by exact congrArg (Value.int .i64) (by omega)) (by omega) (by omega) (by omega) ?_)
    rw [show 38+37*i - (1+37*i)=37 by omega]
    refine (RPI.out).mono ?_
    rintro e w2 ⟨rfl,hb2⟩
    have B2:Hid (Below w.heap.size w w2):=zh (BW.out.trans (hb2.mono BW.out.size))
    clear hb2 c0 c00
    go_wp2_with (refine wpList_store_new zr 57 _ _ zr zr Z _ _ zr zr (by rw [ZS.out];exact infoRfR) zr ZO.out ?_)
    go_ret2
    exact ⟨_,by rw [HY.out];rfl,by rw [HY.out];exact World.ownsRow_nil _ _ _ _,B2.out.alloc B2.out.size _⟩
   ·rw [hpc,if_neg g1] at rpi
    have hx:=zeroRfR
    obtain ⟨r,hr⟩:∃ r,r=rfOf s:=⟨_,rfl⟩
    rw [←hr] at rpi hwi HRS
    have zsz:(refC zref).size=(refC r).size:=by rw [refC_size zref_wf,refC_size hwi]
    have rb:=built_rr r hwi
    have rdf:=fun wx=>rd_rf (w:=wx) (e:=57) hwi
    have rl:=refL_one r
    have rcl:(refC r).toList=refL r:=rfl
    obtain ⟨M,hM⟩:∃ M,M=refC r:=⟨_,rfl⟩
    obtain ⟨Z,hZ⟩:∃ Z,Z=refC zref:=⟨_,rfl⟩
    have ms:M.size=34:=by rw [hM];exact refC_size hwi
    have mo:M.all (·.oneCell')=true:=by rw [hM];exact refC_one r
    rw [←hM] at rpi zsz rb rdf
    rw [←hZ] at hx zsz
    have RPI:=zh rpi;have MS:=zh ms;have MO:=zh mo;have ZSZ:=zh zsz;have RB:=zh rb;have RDF:=zh rdf;have RLO:=zh rl
    clear rpi hpc hwi g1 ms mo zsz rb rdf rl rcl hM hZ hr
    go_upto_region 8 with (first
     | (refine Mem.wpList_slice_mid zr 40 _ _ _ zr 5 Tryz.underlying40 infoB b o 256 c (1+37*i) (38+37*i) zr (by exact congrArg (Value.int .i64) (by omega)) (by exact congrArg (Value.int .i64) (by omega)) (by omega) (by omega) (by omega) ?_;rw [show 38+37*i - (1+37*i)=37 by omega])
     | (go_at_call 88;refine (RPI.out).mono ?_;rintro e w2 ⟨rfl,hb2⟩;have B2:Hid (Below w.heap.size w w2):=zh (BW.out.trans (hb2.mono BW.out.size));have O2:=zh (ownsRow_below OW.out hb2);clear hb2)
     | (refine wpList_store_new zr 57 _ _ zr zr M _ _ zr zr (by rw [MS.out];exact infoRfR) ZSZ.out.symm MO.out ?_))
    clear c0 c00 hx
    have A3:=zh (at_new w2 M 57)
    have B3:Hid (Below w.heap.size w (w2.alloc (.cells M 57))):=zh (B2.out.alloc B2.out.size _)
    have O3:Hid ((w2.alloc (.cells M 57)).ownsRow w.heap.size 57 34 u4 i (refCs (refsN p i))):=zh (World.ownsRow.alloc O2.out _)
    obtain ⟨l,hl⟩:∃ l,l=w2.heap.size:=⟨_,rfl⟩
    rw [←hl] at A3 ⊢
    clear hl O2
    generalize (w2.alloc (.cells M 57))=w3 at *
    have B4:Hid (Below w.heap.size w (w3.alloc (.cells M 57))):=zh (B3.out.alloc B3.out.size _)
    have O4:Hid ((w3.alloc (.cells M 57)).ownsRow w.heap.size 57 34 u4 i (refCs (refsN p i))):=zh (World.ownsRow.alloc O3.out _)
    go_wp2_with (first
     | (refine wpList_load_all zr 57 _ zr l zr _ Tryz.underlying57 zr M _ A3.out (by rw [MS.out];exact infoRfR) ?_)
     | ((refine Go.Great.wpList_buildSliceTo zr 54 57 1 _ zr _ zr _ zr Tryz.underlying54 M (by first | (simp [Act.eval,Act.put];exact RB.out) | (go_simp;exact RB.out) | (simp only [List.map_toArray,List.map_cons,List.map_nil];exact RB.out)) ?_))
     | (at_builtin;go_loud (refine wpList_append_app zr _ _ 54 zr (.slice (some ⟨w3.heap.size,0,none⟩) 1 1) i 1 34 (refL r) (.agg (refC zref)) 48 elemRR (refC_size zref_wf) (by decide) zr O4.out zr (RDF.out w3) RLO.out (by omega) (by omega) B4.out.size ?_);intro v5 w5 ho5 ha5 hb5;have O5:Hid (w5.ownsRow w.heap.size 57 34 v5 (i+1) (refCs (refsN p (i+1)))):=zh (by rw [HRS.out,refCs_snoc];exact ho5);have B5:=zh (B4.out.trans hb5);clear ho5 ha5 hb5))
    go_roundw
    case rel=>exact ⟨i+1,by omega,by go_num,O5.out,B5.out⟩
    case measure=>simp [intOf];omega
  ·have hiK:i=K:=by omega
   have hcase:¬ i < x∨(i < x∧¬ i < 6):=by have:=HK.out;omega
   go_upto_region 5 with fail
   go_cut [22] (fun y wx=>y=.bool false∧wr=wx)
   case first=>
    clear hi hik hiK
    rcases hcase with h | ⟨h,h6⟩
    ·have e1:¬ (i:Int) < (x:Int):=by omega
     clear h
     go_wp2_with fail
     go_meet
     exact ⟨rfl,rfl⟩
    ·have e1:(i:Int) < (x:Int):=by omega
     have e2:¬ (i:Int) < 6:=by omega
     clear h h6
     go_wp2_with fail
     go_meet
     exact ⟨rfl,rfl⟩
   obtain ⟨rfl,hwx⟩:=hcut
   subst hwx
   subst hiK
   have hwf:=WF.out i hK6
   have hrl:=RL.out i
   obtain ⟨L,hL⟩:∃ L,L=refsN p i:=⟨_,rfl⟩
   have hfin:=FIN.out
   have hown:=OW.out
   rw [←hL] at hwf hrl hown hfin
   rw [←hrl] at hown
   have hsl:=own_slrf hown hwf
   have rlay:=rlayN_any L _ wr hsl hwf (by omega)
   have OL:=zh hown;have RLAY:=zh rlay;have FI:=zh hfin;have ERR:=zh (layN_err L);have LOK:=zh (fun q h=>layN_length (p:=q) hwf h)
   obtain ⟨q,hq⟩:∃ q,q=(layN L).1:=⟨_,rfl⟩
   obtain ⟨e,he⟩:∃ e,e=(layN L).2:=⟨_,rfl⟩
   have hpair:layN L=(q,e):=by rw [hq,he]
   rw [hpair] at RLAY ERR FI
   have HPR:=zh hpair
   clear hcase c0 c00 hown hsl rlay hfin hq he hpair hrl hwf hL hik hi
   go_wp2_with fail
   refine (RLAY.out).mono ?_
   rintro e1 w2 ⟨v2,rfl,hs2,hb2⟩
   have S2:=zh hs2;have B2:Hid (Below w.heap.size w w2):=zh (BW.out.trans (hb2.mono BW.out.size));have O2:Hid (OwnRf w2 w.heap.size 57 u4 L):=zh (ownsRow_below OL.out hb2);have V2:=zh (VW.out.below hb2)
   clear hs2 hb2
   rcases ERR.out with h0 | h0
   ·subst h0
    have SM:=zh (same_any q p v2 _ w2 S2.out V2.out (by rw [LOK.out q HPR.out];decide) (by rw [HP.out];decide))
    go_wp2_with fail
    refine (SM.out).mono ?_
    rintro e1 w3 ⟨rfl,hb3⟩
    have B3:Hid (Below w.heap.size w w3):=zh (B2.out.trans (hb3.mono B2.out.size));have O3:Hid (OwnRf w3 w.heap.size 57 u4 L):=zh (ownsRow_below O2.out hb3)
    clear hb3
    by_cases hqp:q=p
    ·have e1:sameB q p=true:=by rw [hqp];exact sameB_self p
     rw [e1]
     have hy:Y=(L,0):=by rw [FI.out,if_pos (by rw [hqp])]
     have HY:=zh hy
     clear hy hqp e1
     go_wp2_with fail
     go_ret2
     exact ⟨_,by rw [HY.out];rfl,by rw [HY.out];exact O3.out,B3.out⟩
    ·have e1:sameB q p=false:=by unfold sameB;exact beq_eq_false_iff_ne.mpr hqp
     rw [e1]
     have hy:Y=([],9):=by rw [FI.out,if_neg (fun h=>hqp (by injection h))]
     have HY:=zh hy
     clear hy hqp e1
     go_wp2_with fail
     go_ret2
     exact ⟨_,by rw [HY.out];rfl,by rw [HY.out];exact World.ownsRow_nil _ _ _ _,B3.out⟩
   ·subst h0
    have hy:Y=([],9):=by rw [FI.out,if_neg (by intro h;injection h with _ h;cases h)]
    have HY:=zh hy
    clear hy
    go_wp2_with fail
    go_ret2
    exact ⟨_,by rw [HY.out];rfl,by rw [HY.out];exact World.ownsRow_nil _ _ _ _,B2.out⟩
theorem rallN_any (p:Lb8) (v:Value) (w:World) (hv:Sl w v p) (hl:p.length≤1000):Calls Tryz.prog 74 #[v] w (RfOwn 57 w (allN p).1 (allN p).2):=by
 by_cases h:p.length=256
 ·exact rallN_page p v w hv h
 ·exact rallN_short p v w hv hl h
theorem allN_err (p:Lb8):(allN p).2=0∨((allN p).1=[]∧((allN p).2=1∨(allN p).2=9)):=by
 unfold allN
 split
 ·exact .inr ⟨rfl,.inl rfl⟩
 ·split
  ·exact .inl rfl
  ·exact .inr ⟨rfl,.inr rfl⟩
theorem rparseN_own (p:Lb8) (z:Int) (v:Value) (w:World) (hv:Sl w v p) (hl:p.length≤1000):Calls Tryz.prog 60 #[v,.int .i64 z] w (RfOwn 57 w (parseN p z).1 (parseN p z).2):=by
 have al:=rallN_any p v w hv hl
 have hwf:=allN_wf p
 have hle:=allN_le p
 have herr:=allN_err p
 have hP:parseN p z=if z < 1∨6 < z then ([],1) else if (allN p).2=0∧((allN p).1.length:Int)≠z then ([],9) else allN p:=rfl
 obtain ⟨Y,hY⟩:∃ Y,Y=parseN p z:=⟨_,rfl⟩
 rw [←hY] at hP ⊢
 obtain ⟨L,hL⟩:∃ L,L=(allN p).1:=⟨_,rfl⟩
 obtain ⟨e,he⟩:∃ e,e=(allN p).2:=⟨_,rfl⟩
 have hpair:allN p=(L,e):=by rw [hL,he]
 rw [hpair] at al hwf hle herr hP
 simp only at al hwf hle herr hP
 have AL:=zh al;have WF:=zh hwf;have HP:=zh hP;have ERR:=zh herr
 clear al hwf herr hP hY hL he hpair hv
 by_cases h1:z < 1
 ·have hy:Y=([],1):=by rw [HP.out,if_pos (.inl h1)]
  have HY:=zh hy
  clear hy
  go_enter Tryz.func60,Tryz.ntmps60
  go_wp2_with fail
  go_ret2
  exact ⟨_,by rw [HY.out];rfl,by rw [HY.out];exact World.ownsRow_nil _ _ _ _,Below.refl _ _⟩
 ·by_cases h6:6 < z
  ·have hy:Y=([],1):=by rw [HP.out,if_pos (.inr h6)]
   have HY:=zh hy
   clear hy
   go_enter Tryz.func60,Tryz.ntmps60
   go_wp2_with fail
   go_ret2
   exact ⟨_,by rw [HY.out];rfl,by rw [HY.out];exact World.ownsRow_nil _ _ _ _,Below.refl _ _⟩
  ·go_enter Tryz.func60,Tryz.ntmps60
   go_wp2_with fail
   refine (AL.out).mono ?_
   rintro e2 w2 ⟨v2,rfl,ho2,hb2⟩
   have S2:=zh ho2;have B2:=zh hb2
   obtain ⟨a,c,rfl⟩:=rows_hd ho2
   clear ho2 hb2
   rcases ERR.out with h0 | ⟨h0,he⟩
   ·subst h0
    obtain ⟨n,hn⟩:∃ n,n=L.length:=⟨_,rfl⟩
    have hP2:=HP.out
    rw [←hn] at hP2
    have S3:=S2.out
    unfold OwnRf at S3
    rw [←hn] at S3
    rw [←hn]
    have S4:=zh S3;have HNL:=zh hn
    clear hn hle S3
    by_cases hnz:(n:Int)=z
    ·have hy:Y=(L,0):=by rw [hP2,if_neg (by omega),if_neg (fun x=>x.2 hnz)]
     have HY:=zh hy
     clear hy hP2
     subst hnz
     go_wp2_with fail
     go_ret2
     exact ⟨_,by rw [HY.out];rfl,by rw [HY.out];show w2.ownsRow _ _ _ _ L.length _;rw [←HNL.out];exact S4.out,B2.out⟩
    ·have hy:Y=([],9):=by rw [hP2,if_neg (by omega),if_pos ⟨rfl,hnz⟩]
     have HY:=zh hy
     clear hy hP2
     go_wp2_with fail
     go_ret2
     exact ⟨_,by rw [HY.out];rfl,by rw [HY.out];exact World.ownsRow_nil _ _ _ _,B2.out⟩
   ·have hne:¬ e=0:=by rcases he with h | h <;> omega
    have hy:Y=(L,e):=by rw [HP.out,if_neg (by omega),if_neg (fun x=>hne x.1)]
    have HY:=zh hy
    clear hy he h0 hle
    go_wp2_with fail
    go_ret2
    exact ⟨_,by rw [HY.out];rfl,by rw [HY.out];exact S2.out,B2.out⟩
end Sha
end Go.Proofs.YtddjdaocdfkgeaaGreatDoor
namespace Go.Proofs.YtddjdaocdfkgeaaGreatDoor
namespace Sha
open Go.RowKit Mem
def stTamper (s:St6) (k:Nat) (x:Lb8):St6:={ s with b:=laidB s.b k x }
def flushTo (l:List (Nat × Lb8)) (b:Lb8):Nat→Lb8
 | 0=>b
 | j+1=>laidB (flushTo l b j) ((l.getD j (0,[])).1*256) (l.getD j (0,[])).2
def WfP (n:Nat) (l:List (Nat × Lb8)):Prop:=∀ j,j < l.length→(l.getD j (0,[])).1 < n∧(l.getD j (0,[])).2.length=256
theorem flushTo_length {n:Nat} {l:List (Nat × Lb8)} {b:Lb8} (h:WfP n l) (hb:b.length=n*256):∀ j,j≤l.length→(flushTo l b j).length=n*256
 | 0,_=>hb
 | j+1,hj=>by
  have h1:=flushTo_length h hb j (by omega)
  obtain ⟨h2,h3⟩:=h j (by omega)
  rw [flushTo,laidL_length _ _ _ (by rw [h1,h3];omega),h1]
def stFlush (s:St6):St6:={ s with b:=flushTo s.w s.b s.w.length,w:=[],t:=s.t++[-1] }
end Sha
end Go.Proofs.YtddjdaocdfkgeaaGreatDoor
