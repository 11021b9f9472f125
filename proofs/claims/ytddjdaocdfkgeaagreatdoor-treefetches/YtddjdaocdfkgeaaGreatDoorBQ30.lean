/- Package dev's small functions, and the copies of the library's: walks. The program's Parse and Set of a node's page. -/
import Derived.Test.YtddjdaocdfkgeaaGreatDoorBQ07
import Derived.Test.YtddjdaocdfkgeaaGreatDoorBQ01
import Derived.Test.YtddjdaocdfkgeaaGreatDoorBQ25
import Derived.Test.YtddjdaocdfkgeaaGreatDoorBQ21
import Derived.Test.YtddjdaocdfkgeaaGreatDoorBQ20
set_option maxRecDepth 100000
set_option maxHeartbeats 1000000
namespace Go.Proofs.YtddjdaocdfkgeaaGreatDoor
namespace Sha
open Go.RowKit Mem
theorem plen_any (br bb n:Nat) (vw vs vt:Value) (w:World) (hrow:At w br (pRow bb n vw vs vt) 84) (hn:n≤1024) :
 Calls Tryz.prog 53 #[rq br] w fun e w'=>e=.returned (.int .i64 (n:Int))∧w=w':=by
 obtain ⟨L,hL⟩:∃ L,L=n*256:=⟨_,rfl⟩
 have c0:w.cell? ⟨br,0,none⟩=some (.slice (some ⟨bb,0,none⟩) L L):=by rw [hrow.cell,hL];rfl
 have hd:(L:Int) / 256=(n:Int):=by omega
 have hb:L≤1000000:=by omega
 have HD:=zh hd
 clear hrow hL hd
 go_enter Tryz.func53,Tryz.ntmps53
 go_wp2_with fail
 go_ret
 exact ⟨by rw [HD.out];rfl,rfl⟩
theorem pmade_any (br bb n:Nat) (vw vs vt:Value) (w:World) (hrow:At w br (pRow bb n vw vs vt) 84) (hn:n≤1024) (h1:1≤n) :
 Calls Tryz.prog 31 #[rq br] w fun e w'=>e=.returned (.bool true)∧w=w':=by
 have hl:=plen_any br bb n vw vs vt w hrow hn
 have HL:=zh hl
 have g1:decide (0 < n)=true:=decide_eq_true (by omega)
 have G1:=zh g1
 clear hl hrow g1
 go_enter Tryz.func31,Tryz.ntmps31
 go_wp2_with fail
 refine HL.out.mono ?_
 rintro o w' ⟨rfl,rfl⟩
 go_wp2_with fail
 go_ret
 exact ⟨by rw [G1.out];rfl,rfl⟩
theorem pcheck_good (br bb n q:Nat) (vw vs vt:Value) (w:World) (hrow:At w br (pRow bb n vw vs vt) 84) (hn:n≤1024) (hq:q < n) :
 Calls Tryz.prog 27 #[rq br,.int .i64 (q:Int)] w fun e w'=>e=.returned (.int .i64 0)∧w=w':=by
 have hl:=plen_any br bb n vw vs vt w hrow hn
 have hm:=pmade_any br bb n vw vs vt w hrow hn (by omega)
 have HL:=zh hl;have HM:=zh hm
 have g1:¬ (n:Int)≤(q:Int):=by omega
 clear hl hm hrow
 go_enter Tryz.func27,Tryz.ntmps27
 go_wp2_with fail
 refine HM.out.mono ?_
 rintro o w' ⟨rfl,rfl⟩
 go_wp2_with fail
 refine HL.out.mono ?_
 rintro o w' ⟨rfl,rfl⟩
 go_wp2_with fail
 go_ret
 exact ⟨rfl,rfl⟩
theorem pcheck_bad (br bb n:Nat) (q:Int) (vw vs vt:Value) (w:World) (hrow:At w br (pRow bb n vw vs vt) 84) (hn:n≤1024) (h1:1≤n) (hq:q < 0∨(n:Int)≤q) :
 Calls Tryz.prog 27 #[rq br,.int .i64 q] w fun e w'=>e=.returned (.int .i64 1)∧w=w':=by
 have hl:=plen_any br bb n vw vs vt w hrow hn
 have hm:=pmade_any br bb n vw vs vt w hrow hn h1
 have HL:=zh hl;have HM:=zh hm
 clear hl hm hrow
 by_cases h0:q < 0
 ·clear hq
  go_enter Tryz.func27,Tryz.ntmps27
  go_wp2_with fail
  refine HM.out.mono ?_
  rintro o w' ⟨rfl,rfl⟩
  go_wp2_with fail
  go_ret
  exact ⟨rfl,rfl⟩
 ·have g1:(n:Int)≤q:=by omega
  clear hq
  go_enter Tryz.func27,Tryz.ntmps27
  go_wp2_with fail
  refine HM.out.mono ?_
  rintro o w' ⟨rfl,rfl⟩
  go_wp2_with fail
  refine HL.out.mono ?_
  rintro o w' ⟨rfl,rfl⟩
  go_wp2_with fail
  go_ret
  exact ⟨rfl,rfl⟩
theorem pblk_any (br bb n q:Nat) (vw vs vt:Value) (w:World) (hrow:At w br (pRow bb n vw vs vt) 84) (hn:n≤1024) (hq:q < n) :
 Calls Tryz.prog 30 #[rq br,.int .i64 (q:Int)] w fun e w'=>e=.returned (.slice (some ⟨bb,q*256,none⟩) 256 (n*256 - q*256))∧w=w':=by
 obtain ⟨L,hL⟩:∃ L,L=n*256:=⟨_,rfl⟩
 rw [←hL]
 have c0:w.cell? ⟨br,0,none⟩=some (.slice (some ⟨bb,0,none⟩) L L):=by rw [hrow.cell,hL];rfl
 have g1:q*256+256≤L:=by omega
 clear hrow hL
 go_enter Tryz.func30,Tryz.ntmps30
 go_wp2_with (refine Mem.wpList_slice_mid zr 40 _ _ _ zr 5 Tryz.underlying40 infoB bb 0 L L (q*256) ((q+1)*256) zr zr zr (by omega) (by omega) (by omega) ?_)
 go_ret
 exact ⟨by rw [show (q+1)*256 - q*256=256 by omega];rfl,rfl⟩
theorem iclone_any {F:Foot} (l:List Int) (v:Value) (w:World) (bl:l.length≤1000000) (hv:SlR F w 1 v l.length (i64s l)):Calls Tryz.prog 44 #[v] w fun e w'=>∃ v',e=.returned v'∧w'.ownsRow w.heap.size 3 1 v' l.length (i64s l)∧Below w.heap.size w w':=by
 have q22:∀ (w:World) (a:Option Addr) (n c n' c':Nat),(binOp .eql 45 (.slice a n c) (.slice none n' c')).run Tryz.prog w=.ok (.bool a.isNone) w:=fun w a n c n' c'=>Lib.run_eql_slice_nil w _ _ a n c n' c' Tryz.underlying45
 have hv0:=hv
 have hone:=i64s_one l
 obtain ⟨_,a0,cap,rfl,_,hr⟩:=hv
 obtain ⟨m,hm⟩:∃ m,m=l.length:=⟨_,rfl⟩
 cases a0 with
 | none=>
  have hl:l=[]:=by
   rcases l with _ | ⟨x,l⟩
   ·rfl
   ·obtain ⟨_,_,h,_⟩:=hr (by simp)
    cases h
  subst hl
  clear hr hv0 hm
  go_enter Tryz.func44,Tryz.ntmps44
  go_wp2
  go_ret
  exact ⟨_,rfl,ownsRow_nil0 _ _ _ _,Below.refl _ _⟩
 | some ad=>
  have hsl:=SlR.rd (hv0.below ((Below.refl _ _).alloc (Nat.le_refl _) (.cells #[] 3)))
  have hb0:Below w.heap.size w (w.alloc (.cells #[] 3)):=(Below.refl _ _).alloc (Nat.le_refl _) _
  have how:(w.alloc (.cells #[] 3)).ownsRow w.heap.size 3 1 (.slice (some ⟨w.heap.size,0,none⟩) 0 0) 0 []:=own_none w w.heap.size (Nat.le_refl _)
  rw [←hm] at bl hsl ⊢
  have HV:=zh hsl;have HB:=zh hb0;have HO:=zh how;have HONE:=zh hone
  clear hv0 hm hr hsl hb0 how hone
  go_enter Tryz.func44,Tryz.ntmps44
  go_wp2_with (at_builtin;refine wpList_append_rows zr _ _ 45 zr (.slice (some ad) m cap) 0 m 1 (i64s l) (.int .i64 0) 8 elemRI zr (by decide) zr HO.out zr HV.out HONE.out (by omega) (by omega) (by simp) ?_;intro v5 w5 ho5 _ hb5;have O5:=zh ho5;have B5:=zh (HB.out.trans hb5);clear ho5 hb5)
  go_ret
  exact ⟨_,rfl,by simpa using O5.out,B5.out⟩
end Sha
end Go.Proofs.YtddjdaocdfkgeaaGreatDoor
namespace Go.Proofs.YtddjdaocdfkgeaaGreatDoor
namespace Sha
open Go.RowKit Mem
set_option maxRecDepth 100000
theorem pparse13_own (p:Lb8) (z:Int) (v:Value) (w:World) (hv:Sl w v p) (hl:p.length≤1000):Calls Tryz.prog 68 #[v,.int .i64 z] w (RfOwn 32 w (parseN p z).1 (parseN p z).2):=by
 have al:=ptake_any p v w hv hl
 have hwf:=allN_wf p
 have hle:=allN_le p
 have herr:=allN_err p
 have hP:parseN p z=if z < 1∨6 < z then ([],1) else if (allN p).2=0∧((allN p).1.length:Int)≠z then ([],9) else allN p:=rfl
 obtain ⟨Y,hY⟩:∃ Y,Y=parseN p z:=⟨_,rfl⟩
 rw [←hY] at hP ⊢
 obtain ⟨L,hL⟩:∃ L,L=(allN p).1:=⟨_,rfl⟩
 obtain ⟨e,he⟩:∃ e,e=(allN p).2:=⟨_,rfl⟩
 have hpair:allN p=(L,e):=by rw [hL,he]
 rw [hpair] at al hwf hle herr hP
 simp only at al hwf hle herr hP
 by_cases hz:1≤z∧z≤6
 ·have im:=isMany_any z w
  rw [decide_eq_true hz] at im
  obtain ⟨i2,hi2,hz2,hs2,hb2⟩:=info_parts rfRP
  have hxt:=zeroTk
  obtain ⟨T,hT⟩:∃ Z,Z=tkC (pad6 []) 0:=⟨_,rfl⟩
  have ts:T.size=205:=by rw [hT];exact tkC_size (pad6_wf (fun _ h=>nomatch h)) (pad6_len (by decide))
  rw [←hT] at hxt
  unfold TkE at al
  have cm:(tkC (pad6 L) L.length)[204]?=some (.int .i64 (L.length:Int)):=tkC_many (pad6_wf hwf) (pad6_len hle)
  have cs:(tkC (pad6 L) L.length).size=205:=tkC_size (pad6_wf hwf) (pad6_len hle)
  have co:(tkC (pad6 L) L.length).all (·.oneCell')=true:=tkC_one
  have hsl:∀ wx b t,At wx b (tkC (pad6 L) L.length) t→SlRf wx (.slice (some ⟨b,0,none⟩) 6 6) (pad6 L):=fun wx b t h=>by
   have g:=tk_sl (m:=6) (c:=6) h (pad6_wf hwf) (pad6_len hle) (by decide)
   have e6:(pad6 L).take 6=pad6 L:=List.take_of_length_le (by rw [pad6_len hle];decide)
   rwa [e6] at g
  have hpl:=pad6_len hle
  have hpw:=pad6_wf hwf
  have hpt:=pad6_take L
  obtain ⟨C,hC⟩:∃ C,C=tkC (pad6 L) L.length:=⟨_,rfl⟩
  rw [←hC] at al cm cs co hsl
  obtain ⟨K,hK⟩:∃ K,K=pad6 L:=⟨_,rfl⟩
  rw [←hK] at hsl hpl hpw hpt
  obtain ⟨n,hn⟩:∃ n,n=L.length:=⟨_,rfl⟩
  rw [←hn] at cm hP hpt hle
  have AL:=zh al;have WF:=zh hwf;have HP:=zh hP;have ERR:=zh herr;have IM:=zh im;have TS:=zh ts;have CM:=zh cm;have CS:=zh cs;have CO:=zh co;have HSL:=zh hsl;have HPL:=zh hpl;have HPW:=zh hpw;have HPT:=zh hpt;have HN:=zh hn
  have I2:=zh hi2;have Z2:=zh hz2;have S2:=zh hs2;have B2i:=zh hb2
  clear al hwf hP herr hY hL he hpair hv im ts cm cs co hsl hpl hpw hpt hC hK hT hi2 hz2 hs2 hb2 hl hn
  have hx:=hxt
  clear hxt
  go_enter Tryz.func68,Tryz.ntmps68
  go_wp2_with fail
  refine IM.out.mono ?_
  rintro e1 w1 ⟨rfl,rfl⟩
  go_wp2_with fail
  refine (AL.out).mono ?_
  rintro e2 w2 ⟨rfl,hb2⟩
  have B2:Hid (Below w1.heap.size w1 (w2.alloc (.cells C 136))):=zh (hb2.alloc hb2.size _)
  have C2:=zh (at_new w2 C 136)
  clear hb2
  go_upto_region 4 with (refine wpList_store_new zr 136 _ _ zr zr C _ _ zr zr (by rw [CS.out];exact infoTk) (by rw [TS.out,CS.out]) CO.out ?_)
  clear hx
  obtain ⟨l,hl⟩:∃ l,l=w2.heap.size:=⟨_,rfl⟩
  rw [←hl] at C2 ⊢
  clear hl
  generalize (w2.alloc (.cells C 136))=w3 at *
  rcases ERR.out with h0 | ⟨h0,he⟩
  ·subst h0
   have cm:w3.cell? ⟨l,204,none⟩=some (.int .i64 (n:Int)):=(C2.out.cell 204).trans CM.out
   by_cases hnz:(n:Int)=z
   ·have hy:Y=(L,0):=by rw [HP.out,if_neg (by omega),if_neg (fun x=>x.2 hnz)]
    have HY:=zh hy
    clear hy
    subst hnz
    have h1n:0 < n:=by omega
    go_upto_region 9 with (refine wpList_make_full _ zr _ _ 51 zr w1.heap.size 32 i2 (.agg (refC zref)) 34 Tryz.underlying51 I2.out Z2.out S2.out .i64 .i64 (n:Int) (n:Int) n zr zr zr zr (by rw [B2i.out];omega) (by simp [maxLen];omega) B2.out.size ?_;intro w4 ho4 hg4;have O4:=zh ho4;have B4:Hid (Below w1.heap.size w1 w4):=zh (B2.out.grown hg4 B2.out.size (fun k e=>by cases e));have C4:=zh (C2.out.below ((Below.refl w3.heap.size w3).grown hg4 (Nat.le_refl _) (fun k e=>by cases e)) C2.out.lt);have G4:=zh B2.out.size;clear ho4 hg4)
    clear cm
    obtain ⟨g,hg⟩:∃ g,g=w3.heap.size:=⟨_,rfl⟩
    rw [←hg] at O4 G4 ⊢
    clear hg
    have SL4:=zh (HSL.out _ _ _ C4.out)
    go_upto_region 10 with (first
     | (refine wpList_cut_all zr 134 _ zr 6 32 Tryz.underlying134 34 infoRfP l 0 zr ?_)
     | (refine wpList_copy_rfn zr _ _ 51 51 zr 32 Tryz.underlying51 infoRfP w1.heap.size 32 n g n _ O4.out zr (some ⟨l,0,none⟩) 6 6 zr K SL4.out HPL.out.symm hle h1n HPW.out ?_;intro w5 ho5 hz5 hh5 hb5;have B5:Hid (Below w1.heap.size w1 w5):=zh (hb5 _ _ B4.out G4.out);have O5:Hid (OwnRf w5 w1.heap.size 32 (.slice (some ⟨g,0,none⟩) n n) L):=zh (by rw [HPT.out] at ho5;show w5.ownsRow _ _ _ _ L.length _;rw [←HN.out];exact ho5);clear ho5 hz5 hh5 hb5))
    go_wp2_with fail
    go_ret2
    exact ⟨_,by rw [HY.out];rfl,by rw [HY.out];exact O5.out,B5.out⟩
   ·have hy:Y=([],9):=by rw [HP.out,if_neg (by omega),if_pos ⟨rfl,hnz⟩]
    have HY:=zh hy
    clear hy
    go_wp2_with fail
    go_ret2
    exact ⟨_,by rw [HY.out];rfl,by rw [HY.out];exact World.ownsRow_nil _ _ _ _,B2.out⟩
  ·have hne:¬ e=0:=by rcases he with h | h <;> omega
   have hy:Y=([],e):=by rw [HP.out,if_neg (by omega),if_neg (fun x=>hne x.1),h0]
   have HY:=zh hy
   clear hy he h0
   go_wp2_with fail
   go_ret2
   exact ⟨_,by rw [HY.out];rfl,by rw [HY.out];exact World.ownsRow_nil _ _ _ _,B2.out⟩
 ·have im:=isMany_any z w
  rw [decide_eq_false hz] at im
  have hy:Y=([],1):=by rw [hP,if_pos (by omega)]
  have HY:=zh hy;have IM:=zh im
  clear hy im al hwf hP herr hY hL he hpair hv hl hle hz
  go_enter Tryz.func68,Tryz.ntmps68
  go_wp2_with fail
  refine IM.out.mono ?_
  rintro e1 w1 ⟨rfl,rfl⟩
  go_wp2_with fail
  go_ret2
  exact ⟨_,by rw [HY.out];rfl,by rw [HY.out];exact World.ownsRow_nil _ _ _ _,Below.refl _ _⟩
end Sha
end Go.Proofs.YtddjdaocdfkgeaaGreatDoor
