/- My own texts, merged. -/
import Derived.Test.YtplmfmpbkjnbaaaGreatDoorBQ00
import Derived.Test.YtplmfmpbkjnbaaaGreatDoorBQ02
import Derived.Deep.DeepCutAuto
import Derived.Test.YtplmfmpbkjnbaaaGreatDoorBQ04
import Derived.OwnWalk
set_option maxRecDepth 100000
set_option maxHeartbeats 8000000
namespace Go.Proofs.YtplmfmpbkjnbaaaGreatDoor
namespace Sha
open Go.RowKit Mem
set_option maxRecDepth 100000
def zL (p:Nat):List Int:=(List.range (itn p)).map fun i=>(lev p i:Int)
theorem zL_length (p:Nat):(zL p).length=itn p:=by simp [zL]
theorem zL_get (p i:Nat) (h:i < itn p):(zL p).getD i 0=(lev p i:Int):=by simp [zL,List.getD_eq_getElem?_getD,h]
def rsC (p:Nat) (vL vF:Value):Array Value:=#[.int .i64 (p:Int),vL,vF]
theorem rsC_one (p:Nat) (a b:Option Addr) (n c m d:Nat):(rsC p (.slice a n c) (.slice b m d)).all (·.oneCell')=true:=by simp [rsC,Value.oneCell']
structure RS (w:World) (p:Nat) (vL vF:Value):Prop where
 l:SlI w vL (zL p)
 f:SlI w vF (fstL p (itn p))
theorem RS.below {w w':World} {p:Nat} {vL vF:Value} (h:RS w p vL vF) (hb:Below w.heap.size w w'):RS w' p vL vF:=⟨h.l.below hb,h.f.below hb⟩
theorem infoRS:(Tryz.prog.info? 37).map (·.size)=some 3:=by kernel_rfl
def inS (p:Nat) (z:Int):Bool:=decide (0≤z∧z < (itn p:Int))
theorem rhas_any (p:Nat) (vL vF:Value) (z:Int) (w:World) (hR:RS w p vL vF):Calls Tryz.prog 103 #[.agg (rsC p vL vF),.int .i64 z] w fun e w'=>e=.returned (.bool (inS p z))∧Below w.heap.size w w':=by
 obtain ⟨aL,cL,rfl⟩:=hR.l.hd
 have hA:=at_new w (rsC p (.slice aL (zL p).length cL) vF) 37
 have hb:Below w.heap.size w (w.alloc (.cells (rsC p (.slice aL (zL p).length cL) vF) 37)):=(Below.refl _ _).alloc (Nat.le_refl _) _
 have c1:(w.alloc (.cells (rsC p (.slice aL (zL p).length cL) vF) 37)).cell? ⟨w.heap.size,1,none⟩=some (.slice aL (zL p).length cL):=(hA.cell 1).trans rfl
 rw [zL_length] at hA hb c1 ⊢
 obtain ⟨M,hM⟩:∃ M,M=rsC p (.slice aL (itn p) cL) vF:=⟨_,rfl⟩
 rw [←hM] at hA hb c1 ⊢
 obtain ⟨n,hn⟩:∃ n,n=itn p:=⟨_,rfl⟩
 obtain ⟨w1,hw1⟩:∃ w1,w1=w.alloc (.cells M 37):=⟨_,rfl⟩
 unfold inS
 rw [←hn] at c1 ⊢
 rw [←hw1] at c1 hb
 have HB:=zh hb
 clear hA hb hM hn
 by_cases h0:0≤z
 ·by_cases h1:z < (n:Int)
  ·rw [decide_eq_true (show 0≤z∧z < (n:Int) from ⟨h0,h1⟩)]
   go_enter Tryz.func103,Tryz.ntmps103
   go_upto_region 1 with fail
   rw [←hw1]
   clear hw1
   go_wp2_with fail
   go_ret
   exact ⟨rfl,HB.out⟩
  ·rw [decide_eq_false (show ¬ (0≤z∧z < (n:Int)) from fun h=>h1 h.2)]
   go_enter Tryz.func103,Tryz.ntmps103
   go_upto_region 1 with fail
   rw [←hw1]
   clear hw1
   go_wp2_with fail
   go_ret
   exact ⟨rfl,HB.out⟩
 ·rw [decide_eq_false (show ¬ (0≤z∧z < (n:Int)) from fun h=>h0 h.1)]
  go_enter Tryz.func103,Tryz.ntmps103
  go_upto_region 1 with fail
  rw [←hw1]
  clear hw1
  go_wp2_with fail
  go_ret
  exact ⟨rfl,HB.out⟩
def kz (p i n:Nat):List Int:=(List.range n).map fun t=>((fst p i+t:Nat):Int)
theorem kz_length (p i n:Nat):(kz p i n).length=n:=by simp [kz]
theorem kz_succ (p i n:Nat):kz p i (n+1)=kz p i n++[((fst p i+n:Nat):Int)]:=by simp [kz,List.range_succ]
theorem kz_get (p i n t:Nat) (h:t < n):(kz p i n).getD t 0=((fst p i+t:Nat):Int):=by simp [kz,List.getD_eq_getElem?_getD,h]
def KZ (p:Nat) (z:Int):List Int:=if (p:Int)≤z∧z < (itn p:Int) then kz p z.toNat (many p z.toNat) else []
theorem elemInt:elemB Tryz.prog 35 3 (.int .i64 0) 8:=⟨Tryz.underlying35,by kernel_rfl⟩
theorem o_ilt {P:Program} (p q:Int) (r:Bool) (h:decide (p < q)=r) (t t2:TypeId) (x y:Operand) (w:World):(do eqGuard .lss t x y (.int .i64 p) (.int .i64 q);binOp .lss t2 (.int .i64 p) (.int .i64 q):Sem Value).run P w=.ok (.bool r) w:=by
 subst h;go_simp
theorem o_ieqd {P:Program} (p q:Int) (r:Bool) (h:decide (p=q)=r) (t t2:TypeId) (x y:Operand) (w:World):(do eqGuard .eql t x y (.int .i64 p) (.int .i64 q);binOp .eql t2 (.int .i64 p) (.int .i64 q):Sem Value).run P w=.ok (.bool r) w:=by
 by_cases e:p=q
 ·subst e;rw [←h,decide_eq_true rfl];exact o_ieq _ _ _ _ _ _
 ·rw [←h,decide_eq_false e];exact o_ieqf _ _ e _ _ _ _ _
structure KI (B f n0:Nat) (p i:Nat) (vo:Value) (w1 wr:World) (j:Nat):Prop where
 o:OwnV wr B 3 vo (iz (kz p i j))
 b:Below w1.heap.size w1 wr
def KOEnd (w:World) (L:List Int) (e:Ending) (w':World):Prop:=∃ v,e=.returned v∧OwnV w' w.heap.size 3 v (iz L)∧Below w.heap.size w w'
theorem rkids_none (p:Nat) (vL vF:Value) (z:Int) (w:World) (hR:RS w p vL vF) (h:¬ ((p:Int)≤z∧z < (itn p:Int))):Calls Tryz.prog 62 #[.agg (rsC p vL vF),.int .i64 z] w (KOEnd w []):=by
 have hhas:=fun wx h=>rhas_any p vL vF z wx h
 obtain ⟨aF,cF,rfl⟩:=hR.f.hd
 have hA:=at_new w (rsC p vL (.slice aF (fstL p (itn p)).length cF)) 37
 have hb:Below w.heap.size w (w.alloc (.cells (rsC p vL (.slice aF (fstL p (itn p)).length cF)) 37)):=(Below.refl _ _).alloc (Nat.le_refl _) _
 have c2:(w.alloc (.cells (rsC p vL (.slice aF (fstL p (itn p)).length cF)) 37)).cell? ⟨w.heap.size,2,none⟩=some (.slice aF (fstL p (itn p)).length cF):=(hA.cell 2).trans rfl
 have hR1:=hR.below hb
 rw [fstL_length] at *
 have hf:=hR1.f
 obtain ⟨n,hn⟩:∃ n,n=itn p:=⟨_,rfl⟩
 have ms:(rsC p vL (.slice aF (itn p) cF)).size=3:=rfl
 obtain ⟨M,hM⟩:∃ M,M=rsC p vL (.slice aF (itn p) cF):=⟨_,rfl⟩
 rw [←hM] at hhas hA hb c2 hR1 hf ms ⊢
 obtain ⟨w1,hw1⟩:∃ w1,w1=w.alloc (.cells M 37):=⟨_,rfl⟩
 rw [←hw1] at hA c2 hb hR1 hf
 rw [←hn] at hf c2 h
 have hin:inS p z=decide (0≤z∧z < (n:Int)):=by rw [hn];rfl
 rw [hin] at hhas
 have HAS:=zh (hhas w1 hR1);have AX:=zh hA;have HB:=zh hb;have MS:=zh ms
 by_cases hz:0≤z∧z < (n:Int)
 ·rw [decide_eq_true hz] at HAS
  obtain ⟨i,rfl⟩:∃ i:Nat,z=(i:Int):=⟨z.toNat,by omega⟩
  have hip:i < p:=by omega
  obtain ⟨bF,oF,e,hlt,cx⟩:=sli_at (i:=i) hf (by rw [fstL_length]) (by omega)
  rw [fstL_get p _ i (by omega),show fstZ p i=-1 from if_pos hip] at cx
  subst e
  have hin2:(i:Int) < (n:Int):=by omega
  have CX:=zh cx;have C2:=zh c2;have LTF:=zh hlt
  clear hhas hA hb c2 hR1 hf ms hM hR h hz hip hn hin cx hlt
  go_enter Tryz.func62,Tryz.ntmps62
  go_upto_region 1 with fail
  rw [←hw1]
  clear hw1
  go_wp2_with (refine wpList_load_all zr 37 _ zr w.heap.size zr _ Tryz.underlying37 zr M _ AX.out (by rw [MS.out];exact infoRS) ?_)
  refine HAS.out.mono ?_
  rintro e w2 ⟨rfl,hb2⟩
  have c2:=(hb2.cell (p:=⟨w.heap.size,2,none⟩) AX.out.lt).trans C2.out
  have cx:=(hb2.cell (p:=⟨bF,oF+i,none⟩) LTF.out).trans CX.out
  have B2:Hid (Below w.heap.size w w2):=zh (HB.out.trans (hb2.mono HB.out.size))
  clear hb2 HAS
  go_wp2_with fail
  go_ret
  exact ⟨_,rfl,OwnV.nil _ _ _,B2.out⟩
 ·rw [decide_eq_false hz] at HAS
  clear hhas hA hb c2 hR1 hf ms hM hR h hz hn hin
  go_enter Tryz.func62,Tryz.ntmps62
  go_upto_region 1 with fail
  rw [←hw1]
  clear hw1
  go_wp2_with (refine wpList_load_all zr 37 _ zr w.heap.size zr _ Tryz.underlying37 zr M _ AX.out (by rw [MS.out];exact infoRS) ?_)
  refine HAS.out.mono ?_
  rintro e w2 ⟨rfl,hb2⟩
  have B2:Hid (Below w.heap.size w w2):=zh (HB.out.trans (hb2.mono HB.out.size))
  clear hb2 HAS
  go_wp2_with fail
  go_ret
  exact ⟨_,rfl,OwnV.nil _ _ _,B2.out⟩
theorem rkids_some (p:Nat) (vL vF:Value) (i:Nat) (w:World) (hR:RS w p vL vF) (h0:1≤p) (h1:p≤216) (hi:p≤i) (hit:i < itn p):Calls Tryz.prog 62 #[.agg (rsC p vL vF),.int .i64 (i:Int)] w (KOEnd w (kz p i (many p i))):=by
 have hhas:=fun wx h=>rhas_any p vL vF (i:Int) wx h
 obtain ⟨aF,cF,rfl⟩:=hR.f.hd
 obtain ⟨aL,cL,rfl⟩:=hR.l.hd
 rw [zL_length,fstL_length] at *
 obtain ⟨bL,oL,e,hltL,_⟩:=sli_at (i:=i) hR.l (by rw [zL_length]) hit
 subst e
 obtain ⟨bF,oF,e,hltF,_⟩:=sli_at (i:=i) hR.f (by rw [fstL_length]) hit
 subst e
 have hLc:∀ wx,Below w.heap.size w wx→∀ q,q < itn p→wx.cell? ⟨bL,oL+q,none⟩=some (.int .i64 (lev p q:Int)):=fun wx hb q hq=>by
  rw [sli_cell (i:=q) (hR.l.below hb) (by rw [zL_length]) hq,zL_get p q hq]
 have hFc:∀ wx,Below w.heap.size w wx→wx.cell? ⟨bF,oF+i,none⟩=some (.int .i64 ((fst p i:Nat):Int)):=fun wx hb=>by
  rw [sli_cell (i:=i) (hR.f.below hb) (by rw [fstL_length]) hit,fstL_get p _ i hit,show fstZ p i=((fst p i:Nat):Int) from if_neg (by omega)]
 have hbig:=(itn_big p h0 h1).2
 have hkc:=fun j=>kids_cond p i j h0 h1 hi hit
 have hm6:=many_le p i
 have hin:inS p (i:Int)=true:=decide_eq_true ⟨by omega,by omega⟩
 rw [hin] at hhas
 obtain ⟨n,hn⟩:∃ n,n=itn p:=⟨_,rfl⟩
 have hA:=at_new w (rsC p (.slice (some ⟨bL,oL,none⟩) (itn p) cL) (.slice (some ⟨bF,oF,none⟩) (itn p) cF)) 37
 have hb:Below w.heap.size w (w.alloc (.cells (rsC p (.slice (some ⟨bL,oL,none⟩) (itn p) cL) (.slice (some ⟨bF,oF,none⟩) (itn p) cF)) 37)):=(Below.refl _ _).alloc (Nat.le_refl _) _
 have c1:(w.alloc (.cells (rsC p (.slice (some ⟨bL,oL,none⟩) (itn p) cL) (.slice (some ⟨bF,oF,none⟩) (itn p) cF)) 37)).cell? ⟨w.heap.size,1,none⟩=some (.slice (some ⟨bL,oL,none⟩) (itn p) cL):=(hA.cell 1).trans rfl
 have c2:(w.alloc (.cells (rsC p (.slice (some ⟨bL,oL,none⟩) (itn p) cL) (.slice (some ⟨bF,oF,none⟩) (itn p) cF)) 37)).cell? ⟨w.heap.size,2,none⟩=some (.slice (some ⟨bF,oF,none⟩) (itn p) cF):=(hA.cell 2).trans rfl
 have hR1:=hR.below hb
 have ms:(rsC p (.slice (some ⟨bL,oL,none⟩) (itn p) cL) (.slice (some ⟨bF,oF,none⟩) (itn p) cF)).size=3:=rfl
 obtain ⟨M,hM⟩:∃ M,M=rsC p (.slice (some ⟨bL,oL,none⟩) (itn p) cL) (.slice (some ⟨bF,oF,none⟩) (itn p) cF):=⟨_,rfl⟩
 rw [←hM] at hhas hA hb c1 c2 hR1 ms ⊢
 obtain ⟨w1,hw1⟩:∃ w1,w1=w.alloc (.cells M 37):=⟨_,rfl⟩
 rw [←hw1] at hA c1 c2 hb hR1
 rw [←hn] at c1 c2 hLc hit hbig
 obtain ⟨f,hf⟩:∃ f,f=fst p i:=⟨_,rfl⟩
 obtain ⟨m,hm⟩:∃ m,m=many p i:=⟨_,rfl⟩
 rw [←hf] at hFc
 rw [←hf,←hm] at hkc
 rw [←hm] at hm6 ⊢
 have hln:∀ j,(kz p i j).length=j:=kz_length p i
 have hsn:∀ j,kz p i (j+1)=kz p i j++[((f+j:Nat):Int)]:=fun j=>by rw [hf];exact kz_succ p i j
 have hk0:kz p i 0=[]:=rfl
 obtain ⟨KK,hKK⟩:∃ K,K=kz p i:=⟨_,rfl⟩
 rw [←hKK] at hln hsn hk0 ⊢
 have LT0:=zh hA.lt
 have HAS:=zh (hhas w1 hR1);have AX:=zh hA;have HB:=zh hb;have MS:=zh ms;have LC:=zh hLc;have FC:=zh hFc;have KC:=zh hkc;have C1:=zh c1;have C2:=zh c2;have LN:=zh hln;have SN:=zh hsn;have LTL:=zh hltL;have K0:=zh hk0
 have cF2:=FC.out w1 HB.out
 clear hhas hA hb c1 hR1 ms hM hR hLc hFc hkc hin hn hf hm hln hsn hKK hltL hltF hk0
 go_enter Tryz.func62,Tryz.ntmps62
 go_upto_region 1 with fail
 rw [←hw1]
 clear hw1 c2 cF2
 go_wp2_with (refine wpList_load_all zr 37 _ zr w.heap.size zr _ Tryz.underlying37 zr M _ AX.out (by rw [MS.out];exact infoRS) ?_)
 refine HAS.out.mono ?_
 rintro e w2 ⟨rfl,hb2⟩
 have c2:=(hb2.cell (p:=⟨w.heap.size,2,none⟩) LT0.out).trans C2.out
 have B2:Hid (Below w1.heap.size w1 w2):=zh hb2
 have cF2:=FC.out w2 (HB.out.trans (hb2.mono HB.out.size))
 have hin2:(i:Int) < (n:Int):=by omega
 clear hb2 HAS
 go_wp2_with fail
 go_loopw [5,6] (fun vo k wr=>∃ j:Nat,j≤m∧k=.int .i64 ((f+j:Nat):Int)∧OwnV wr w1.heap.size 3 vo (iz (KK j))∧Below w1.heap.size w1 wr) (fun _ k _=>f+7 - (intOf k).toNat)
 case atStart=>exact ⟨0,by omega,rfl,by rw [K0.out];exact OwnV.nil _ _ _,B2.out⟩
 case round=>
  clear c2 cF2 B2
  obtain ⟨j,hj,rfl,ho,hbw⟩:=hrel
  obtain ⟨ao,co,e,_⟩:=OwnV.open ho
  rw [iz_length,LN.out] at e
  subst e
  have hC1:=(hbw.cell (p:=⟨w.heap.size,1,none⟩) LT0.out).trans C1.out
  have hLw:=LC.out wr (HB.out.trans (hbw.mono HB.out.size))
  have lt0:w.heap.size < wr.heap.size:=Nat.lt_of_lt_of_le LT0.out hbw.size
  have ltl:bL < wr.heap.size:=Nat.lt_of_lt_of_le LTL.out (Nat.le_trans HB.out.size hbw.size)
  have hkj:=KC.out j
  have OO:=zh ho;have BW:=zh hbw
  have DRW:Hid (Below wr.heap.size wr wr.drew):=zh (Below.refl _ _).drew
  have J6v:=fun (r:Bool) (h:decide ((j:Int) < 6)=r) (t t2:TypeId) (x y:Operand) (wx:World)=>o_ilt (P:=Tryz.prog) (j:Int) 6 r h t t2 x y wx
  have KIv:=fun (r:Bool) (h:decide (((f+j:Nat):Int) < (i:Int))=r) (t t2:TypeId) (x y:Operand) (wx:World)=>o_ilt (P:=Tryz.prog) ((f+j:Nat):Int) (i:Int) r h t t2 x y wx
  have C1':=zh hC1;have LT0':=zh lt0;have LTL':=zh ltl;have LW:=zh hLw
  clear hC1 lt0 ltl hLw ho hbw
  by_cases h6:j < 6
  ·have J6:=zh (J6v true (decide_eq_true (by omega)))
   by_cases hki:f+j < i
   ·have KI:=zh (KIv true (decide_eq_true (by omega)))
    obtain ⟨lk,hlk⟩:∃ l,l=lev p (f+j):=⟨_,rfl⟩
    obtain ⟨li,hli⟩:∃ l,l=lev p i:=⟨_,rfl⟩
    have hl3:=lev_le p i
    have ck:=LW.out (f+j) (by omega)
    have ci:=LW.out i hit
    rw [←hlk,←hli] at hkj
    rw [←hlk] at ck
    rw [←hli] at ci hl3
    have SUB:=zh (fun (t t2:TypeId) (x y:Operand) (wx:World)=>o_isub (P:=Tryz.prog) t t2 x y (li:Int) 1 ((li:Int) - 1) rfl (by omega) (by omega) wx)
    have EQv:=fun (r:Bool) (h:decide ((lk:Int)=(li:Int) - 1)=r) (t t2:TypeId) (x y:Operand) (wx:World)=>o_ieqd (P:=Tryz.prog) (lk:Int) ((li:Int) - 1) r h t t2 x y wx
    have CK:=zh ck;have CI:=zh ci
    clear ck ci hlk hli hl3
    by_cases hl:lk+1=li
    ·have hjm:j < m:=hkj.1 ⟨h6,hki,hl⟩
     have EQ:=zh (EQv true (decide_eq_true (by omega)))
     clear J6v KIv EQv hkj hl
     go_wp2_with fail
     refine wp_region_plan (.take 0 (.take 1 (.take 2 (.take 3 (.take 4 (.take 5 (.take 6 (.take 7 (.take 8 (.take 9 (.take 10 (.take 11 (.take 12 (.take 13 (.take 14 (.take 15 (.take 16 (.take 17 (.take 18 (.take 19 (.take 20 (.take 21 .done)))))))))))))))))))))) (by kernel_rfl) (by kernel_rfl) (by kernel_rfl) ?_
     (first | refine Mem.pm1 ?_ | refine Mem.pm2 ?_ | refine Mem.pt ?_ | refine Mem.pf ?_)
     (simp only [Mem.zp,Mem.pb,Mem.pc])
     refine plan_len _ _ _ ao j co zr zr zr zr ze (fun w'=>by first | rfl | go_simp) ?_
     (simp only [Mem.zp,Mem.pb,Mem.pc])
     refine plan_bin _ _ _ _ _ _ _ (.bool true) zr zr zr ze zr (fun wx=>J6.out _ _ _ _ wx) ?_
     (simp only [Mem.zp,Mem.pb,Mem.pc])
     iterate 3 ((first | refine Mem.pm1 ?_ | refine Mem.pm2 ?_ | refine Mem.pt ?_ | refine Mem.pf ?_);(simp only [Mem.zp,Mem.pb,Mem.pc]))
     refine plan_bin _ _ _ _ _ _ _ (.bool true) zr zr zr ze ze (fun wx=>KI.out _ _ _ _ wx) ?_
     (simp only [Mem.zp,Mem.pb,Mem.pc])
     refine plan_pick_t _ _ _ _ zr zr zr ze ze ?_
     (simp only [Mem.zp,Mem.pb,Mem.pc])
     (first | refine Mem.pm1 ?_ | refine Mem.pm2 ?_ | refine Mem.pt ?_ | refine Mem.pf ?_)
     (simp only [Mem.zp,Mem.pb,Mem.pc])
     refine plan_field 37 _ 1 w.heap.size 0 ⟨w.heap.size,1,none⟩ zr zr zr ze (fun wx=>by go_simp) ?_
     (simp only [Mem.zp,Mem.pb,Mem.pc])
     refine plan_cell 35 _ ⟨w.heap.size,1,none⟩ (.slice (some ⟨bL,oL,none⟩) n cL) _ zr zr zr ze (fun w' hw'=>(Below.cell hw' (p:=⟨w.heap.size,1,none⟩) LT0'.out).trans C1'.out) Tryz.underlying35 zr ?_
     (simp only [Mem.zp,Mem.pb,Mem.pc])
     (first | refine Mem.pm1 ?_ | refine Mem.pm2 ?_ | refine Mem.pt ?_ | refine Mem.pf ?_)
     (simp only [Mem.zp,Mem.pb,Mem.pc])
     refine plan_index 35 3 _ _ bL oL n cL (f+j) zr zr zr ze ze (by omega) Tryz.underlying35 (by kernel_rfl) ?_
     (simp only [Mem.zp,Mem.pb,Mem.pc])
     refine plan_cell 3 _ ⟨bL,oL+(f+j),none⟩ (.int .i64 (lk:Int)) _ zr zr zr ze (fun w' hw'=>(Below.cell hw' (p:=⟨bL,oL+(f+j),none⟩) LTL'.out).trans CK.out) Tryz.underlying3 zr ?_
     (simp only [Mem.zp,Mem.pb,Mem.pc])
     refine plan_field 37 _ 1 w.heap.size 0 ⟨w.heap.size,1,none⟩ zr zr zr ze (fun wx=>by go_simp) ?_
     (simp only [Mem.zp,Mem.pb,Mem.pc])
     refine plan_cell 35 _ ⟨w.heap.size,1,none⟩ (.slice (some ⟨bL,oL,none⟩) n cL) _ zr zr zr ze (fun w' hw'=>(Below.cell hw' (p:=⟨w.heap.size,1,none⟩) LT0'.out).trans C1'.out) Tryz.underlying35 zr ?_
     (simp only [Mem.zp,Mem.pb,Mem.pc])
     (first | refine Mem.pm1 ?_ | refine Mem.pm2 ?_ | refine Mem.pt ?_ | refine Mem.pf ?_)
     (simp only [Mem.zp,Mem.pb,Mem.pc])
     refine plan_index 35 3 _ _ bL oL n cL i zr zr zr ze ze (by omega) Tryz.underlying35 (by kernel_rfl) ?_
     (simp only [Mem.zp,Mem.pb,Mem.pc])
     refine plan_cell 3 _ ⟨bL,oL+i,none⟩ (.int .i64 (li:Int)) _ zr zr zr ze (fun w' hw'=>(Below.cell hw' (p:=⟨bL,oL+i,none⟩) LTL'.out).trans CI.out) Tryz.underlying3 zr ?_
     (simp only [Mem.zp,Mem.pb,Mem.pc])
     refine plan_bin _ _ _ _ _ _ _ (.int .i64 ((li:Int) - 1)) zr zr zr ze zr (fun wx=>SUB.out _ _ _ _ wx) ?_
     (simp only [Mem.zp,Mem.pb,Mem.pc])
     refine plan_bin _ _ _ _ _ _ _ (.bool true) zr zr zr ze ze (fun wx=>EQ.out _ _ _ _ wx) ?_
     (simp only [Mem.zp,Mem.pb,Mem.pc])
     refine plan_pick_t _ _ _ _ zr zr zr ze ze ?_
     (simp only [Mem.zp,Mem.pb,Mem.pc])
     refine plan_nil ?_
     have OW:=zh (OwnV.below OO.out DRW.out);have BD:Hid (Below w1.heap.size w1 wr.drew):=zh (BW.out.trans (DRW.out.mono BW.out.size))
     have hlen:(iz (KK j)).length=j:=by rw [iz_length,LN.out]
     have HLN:=zh hlen
     have SNJ:=zh (SN.out j)
     clear hlen
     go_wp2_with (at_builtin;refine wpList_append_lit zr _ _ 35 zr (.int .i64 ((f+j:Nat):Int)) (.int .i64 0) 8 elemInt zr zr OW.out zr zr (by rw [HLN.out];omega) (by rw [HLN.out];omega) (BD.out.size) ?_;intro v6 w6 ho6 _ hb6 _;have O6:Hid (OwnV w6 w1.heap.size 3 v6 (iz (KK (j+1)))):=zh (by rw [SNJ.out,iz_snoc];exact ho6);have B6:Hid (Below w1.heap.size w1 w6):=zh (BD.out.trans hb6);clear ho6 hb6)
     go_roundw
     case rel=>exact ⟨j+1,by omega,congrArg (Value.int .i64) (by omega),O6.out,B6.out⟩
     case measure=>simp [intOf];omega
    ·have hjm:j=m:=by have:=hkj.2;omega
     have EQ:=zh (EQv false (decide_eq_false (by omega)))
     subst hjm
     clear J6v KIv EQv hkj hl hm6 hj
     go_wp2_with fail
     refine wp_region_plan (.take 0 (.take 1 (.take 2 (.take 3 (.take 4 (.take 5 (.take 6 (.take 7 (.take 8 (.take 9 (.take 10 (.take 11 (.take 12 (.take 13 (.take 14 (.take 15 (.take 16 (.take 17 (.take 18 (.take 19 (.take 20 (.take 21 .done)))))))))))))))))))))) (by kernel_rfl) (by kernel_rfl) (by kernel_rfl) ?_
     (first | refine Mem.pm1 ?_ | refine Mem.pm2 ?_ | refine Mem.pt ?_ | refine Mem.pf ?_)
     (simp only [Mem.zp,Mem.pb,Mem.pc])
     refine plan_len _ _ _ ao j co zr zr zr zr ze (fun w'=>by first | rfl | go_simp) ?_
     (simp only [Mem.zp,Mem.pb,Mem.pc])
     refine plan_bin _ _ _ _ _ _ _ (.bool true) zr zr zr ze zr (fun wx=>J6.out _ _ _ _ wx) ?_
     (simp only [Mem.zp,Mem.pb,Mem.pc])
     iterate 3 ((first | refine Mem.pm1 ?_ | refine Mem.pm2 ?_ | refine Mem.pt ?_ | refine Mem.pf ?_);(simp only [Mem.zp,Mem.pb,Mem.pc]))
     refine plan_bin _ _ _ _ _ _ _ (.bool true) zr zr zr ze ze (fun wx=>KI.out _ _ _ _ wx) ?_
     (simp only [Mem.zp,Mem.pb,Mem.pc])
     refine plan_pick_t _ _ _ _ zr zr zr ze ze ?_
     (simp only [Mem.zp,Mem.pb,Mem.pc])
     (first | refine Mem.pm1 ?_ | refine Mem.pm2 ?_ | refine Mem.pt ?_ | refine Mem.pf ?_)
     (simp only [Mem.zp,Mem.pb,Mem.pc])
     refine plan_field 37 _ 1 w.heap.size 0 ⟨w.heap.size,1,none⟩ zr zr zr ze (fun wx=>by go_simp) ?_
     (simp only [Mem.zp,Mem.pb,Mem.pc])
     refine plan_cell 35 _ ⟨w.heap.size,1,none⟩ (.slice (some ⟨bL,oL,none⟩) n cL) _ zr zr zr ze (fun w' hw'=>(Below.cell hw' (p:=⟨w.heap.size,1,none⟩) LT0'.out).trans C1'.out) Tryz.underlying35 zr ?_
     (simp only [Mem.zp,Mem.pb,Mem.pc])
     (first | refine Mem.pm1 ?_ | refine Mem.pm2 ?_ | refine Mem.pt ?_ | refine Mem.pf ?_)
     (simp only [Mem.zp,Mem.pb,Mem.pc])
     refine plan_index 35 3 _ _ bL oL n cL (f+j) zr zr zr ze ze (by omega) Tryz.underlying35 (by kernel_rfl) ?_
     (simp only [Mem.zp,Mem.pb,Mem.pc])
     refine plan_cell 3 _ ⟨bL,oL+(f+j),none⟩ (.int .i64 (lk:Int)) _ zr zr zr ze (fun w' hw'=>(Below.cell hw' (p:=⟨bL,oL+(f+j),none⟩) LTL'.out).trans CK.out) Tryz.underlying3 zr ?_
     (simp only [Mem.zp,Mem.pb,Mem.pc])
     refine plan_field 37 _ 1 w.heap.size 0 ⟨w.heap.size,1,none⟩ zr zr zr ze (fun wx=>by go_simp) ?_
     (simp only [Mem.zp,Mem.pb,Mem.pc])
     refine plan_cell 35 _ ⟨w.heap.size,1,none⟩ (.slice (some ⟨bL,oL,none⟩) n cL) _ zr zr zr ze (fun w' hw'=>(Below.cell hw' (p:=⟨w.heap.size,1,none⟩) LT0'.out).trans C1'.out) Tryz.underlying35 zr ?_
     (simp only [Mem.zp,Mem.pb,Mem.pc])
     (first | refine Mem.pm1 ?_ | refine Mem.pm2 ?_ | refine Mem.pt ?_ | refine Mem.pf ?_)
     (simp only [Mem.zp,Mem.pb,Mem.pc])
     refine plan_index 35 3 _ _ bL oL n cL i zr zr zr ze ze (by omega) Tryz.underlying35 (by kernel_rfl) ?_
     (simp only [Mem.zp,Mem.pb,Mem.pc])
     refine plan_cell 3 _ ⟨bL,oL+i,none⟩ (.int .i64 (li:Int)) _ zr zr zr ze (fun w' hw'=>(Below.cell hw' (p:=⟨bL,oL+i,none⟩) LTL'.out).trans CI.out) Tryz.underlying3 zr ?_
     (simp only [Mem.zp,Mem.pb,Mem.pc])
     refine plan_bin _ _ _ _ _ _ _ (.int .i64 ((li:Int) - 1)) zr zr zr ze zr (fun wx=>SUB.out _ _ _ _ wx) ?_
     (simp only [Mem.zp,Mem.pb,Mem.pc])
     refine plan_bin _ _ _ _ _ _ _ (.bool false) zr zr zr ze ze (fun wx=>EQ.out _ _ _ _ wx) ?_
     (simp only [Mem.zp,Mem.pb,Mem.pc])
     refine plan_pick_t _ _ _ _ zr zr zr ze ze ?_
     (simp only [Mem.zp,Mem.pb,Mem.pc])
     refine plan_nil ?_
     go_wp2_with fail
     go_ret
     exact ⟨_,rfl,ownsRow_base (OwnV.below OO.out DRW.out) HB.out.size,HB.out.trans ((BW.out.trans (DRW.out.mono BW.out.size)).mono HB.out.size)⟩
   ·have hjm:j=m:=by have:=hkj.2;omega
    have KI:=zh (KIv false (decide_eq_false (by omega)))
    subst hjm
    clear J6v KIv hkj hm6 hj hki
    go_wp2_with fail
    refine wp_region_plan (.take 0 (.take 1 (.take 2 (.take 3 (.take 4 (.take 5 (.take 6 (.take 7 (.take 8 (.take 9 (.take 10 (.take 11 (.take 12 (.take 13 (.take 14 (.take 15 (.take 16 (.take 17 (.take 18 (.take 19 (.take 20 (.take 21 .done)))))))))))))))))))))) (by kernel_rfl) (by kernel_rfl) (by kernel_rfl) ?_
    (first | refine Mem.pm1 ?_ | refine Mem.pm2 ?_ | refine Mem.pt ?_ | refine Mem.pf ?_)
    (simp only [Mem.zp,Mem.pb,Mem.pc])
    refine plan_len _ _ _ ao j co zr zr zr zr ze (fun w'=>by first | rfl | go_simp) ?_
    (simp only [Mem.zp,Mem.pb,Mem.pc])
    refine plan_bin _ _ _ _ _ _ _ (.bool true) zr zr zr ze zr (fun wx=>J6.out _ _ _ _ wx) ?_
    (simp only [Mem.zp,Mem.pb,Mem.pc])
    iterate 3 ((first | refine Mem.pm1 ?_ | refine Mem.pm2 ?_ | refine Mem.pt ?_ | refine Mem.pf ?_);(simp only [Mem.zp,Mem.pb,Mem.pc]))
    refine plan_bin _ _ _ _ _ _ _ (.bool false) zr zr zr ze ze (fun wx=>KI.out _ _ _ _ wx) ?_
    (simp only [Mem.zp,Mem.pb,Mem.pc])
    refine plan_pick_t _ _ _ _ zr zr zr ze ze ?_
    (simp only [Mem.zp,Mem.pb,Mem.pc])
    (first | refine Mem.pm1 ?_ | refine Mem.pm2 ?_ | refine Mem.pt ?_ | refine Mem.pf ?_)
    (simp only [Mem.zp,Mem.pb,Mem.pc])
    refine plan_skip zr zr ?_
    (simp only [Mem.zp,Mem.pb,Mem.pc])
    refine plan_skip zr zr ?_
    (simp only [Mem.zp,Mem.pb,Mem.pc])
    refine plan_skip zr zr ?_
    (simp only [Mem.zp,Mem.pb,Mem.pc])
    refine plan_skip zr zr ?_
    (simp only [Mem.zp,Mem.pb,Mem.pc])
    refine plan_skip zr zr ?_
    (simp only [Mem.zp,Mem.pb,Mem.pc])
    refine plan_skip zr zr ?_
    (simp only [Mem.zp,Mem.pb,Mem.pc])
    refine plan_skip zr zr ?_
    (simp only [Mem.zp,Mem.pb,Mem.pc])
    refine plan_skip zr zr ?_
    (simp only [Mem.zp,Mem.pb,Mem.pc])
    refine plan_skip zr zr ?_
    (simp only [Mem.zp,Mem.pb,Mem.pc])
    refine plan_skip zr zr ?_
    (simp only [Mem.zp,Mem.pb,Mem.pc])
    refine plan_skip zr zr ?_
    (simp only [Mem.zp,Mem.pb,Mem.pc])
    refine plan_skip zr zr ?_
    (simp only [Mem.zp,Mem.pb,Mem.pc])
    refine plan_pick_f _ _ _ _ zr zr zr ze ze ?_
    (simp only [Mem.zp,Mem.pb,Mem.pc])
    refine plan_nil ?_
    go_wp2_with fail
    go_ret
    exact ⟨_,rfl,ownsRow_base (OwnV.below OO.out DRW.out) HB.out.size,HB.out.trans ((BW.out.trans (DRW.out.mono BW.out.size)).mono HB.out.size)⟩
  ·have hjm:j=m:=by have:=hkj.2;omega
   have J6:=zh (J6v false (decide_eq_false (by omega)))
   subst hjm
   clear J6v KIv hkj hm6 hj h6
   go_wp2_with fail
   refine wp_region_plan (.take 0 (.take 1 (.take 2 (.take 3 (.take 4 (.take 5 (.take 6 (.take 7 (.take 8 (.take 9 (.take 10 (.take 11 (.take 12 (.take 13 (.take 14 (.take 15 (.take 16 (.take 17 (.take 18 (.take 19 (.take 20 (.take 21 .done)))))))))))))))))))))) (by kernel_rfl) (by kernel_rfl) (by kernel_rfl) ?_
   (first | refine Mem.pm1 ?_ | refine Mem.pm2 ?_ | refine Mem.pt ?_ | refine Mem.pf ?_)
   (simp only [Mem.zp,Mem.pb,Mem.pc])
   refine plan_len _ _ _ ao j co zr zr zr zr ze (fun w'=>by first | rfl | go_simp) ?_
   (simp only [Mem.zp,Mem.pb,Mem.pc])
   refine plan_bin _ _ _ _ _ _ _ (.bool false) zr zr zr ze zr (fun wx=>J6.out _ _ _ _ wx) ?_
   (simp only [Mem.zp,Mem.pb,Mem.pc])
   (first | refine Mem.pm1 ?_ | refine Mem.pm2 ?_ | refine Mem.pt ?_ | refine Mem.pf ?_)
   (simp only [Mem.zp,Mem.pb,Mem.pc])
   refine plan_skip zr zr ?_
   (simp only [Mem.zp,Mem.pb,Mem.pc])
   refine plan_skip zr zr ?_
   (simp only [Mem.zp,Mem.pb,Mem.pc])
   refine plan_skip zr zr ?_
   (simp only [Mem.zp,Mem.pb,Mem.pc])
   refine plan_pick_f _ _ _ _ zr zr zr ze ze ?_
   (simp only [Mem.zp,Mem.pb,Mem.pc])
   (first | refine Mem.pm1 ?_ | refine Mem.pm2 ?_ | refine Mem.pt ?_ | refine Mem.pf ?_)
   (simp only [Mem.zp,Mem.pb,Mem.pc])
   refine plan_skip zr zr ?_
   (simp only [Mem.zp,Mem.pb,Mem.pc])
   refine plan_skip zr zr ?_
   (simp only [Mem.zp,Mem.pb,Mem.pc])
   refine plan_skip zr zr ?_
   (simp only [Mem.zp,Mem.pb,Mem.pc])
   refine plan_skip zr zr ?_
   (simp only [Mem.zp,Mem.pb,Mem.pc])
   refine plan_skip zr zr ?_
   (simp only [Mem.zp,Mem.pb,Mem.pc])
   refine plan_skip zr zr ?_
   (simp only [Mem.zp,Mem.pb,Mem.pc])
   refine plan_skip zr zr ?_
   (simp only [Mem.zp,Mem.pb,Mem.pc])
   refine plan_skip zr zr ?_
   (simp only [Mem.zp,Mem.pb,Mem.pc])
   refine plan_skip zr zr ?_
   (simp only [Mem.zp,Mem.pb,Mem.pc])
   refine plan_skip zr zr ?_
   (simp only [Mem.zp,Mem.pb,Mem.pc])
   refine plan_skip zr zr ?_
   (simp only [Mem.zp,Mem.pb,Mem.pc])
   refine plan_skip zr zr ?_
   (simp only [Mem.zp,Mem.pb,Mem.pc])
   refine plan_pick_f _ _ _ _ zr zr zr ze ze ?_
   (simp only [Mem.zp,Mem.pb,Mem.pc])
   refine plan_nil ?_
   go_wp2_with fail
   go_ret
   exact ⟨_,rfl,ownsRow_base (OwnV.below OO.out DRW.out) HB.out.size,HB.out.trans ((BW.out.trans (DRW.out.mono BW.out.size)).mono HB.out.size)⟩
theorem rkids_own (p:Nat) (vL vF:Value) (z:Int) (w:World) (hR:RS w p vL vF) (h0:1≤p) (h1:p≤216):Calls Tryz.prog 62 #[.agg (rsC p vL vF),.int .i64 z] w (KOEnd w (KZ p z)):=by
 unfold KZ
 by_cases h:(p:Int)≤z∧z < (itn p:Int)
 ·rw [if_pos h]
  obtain ⟨i,rfl⟩:∃ i:Nat,z=(i:Int):=⟨z.toNat,by omega⟩
  exact rkids_some p vL vF i w hR h0 h1 (by omega) (by omega)
 ·rw [if_neg h]
  exact rkids_none p vL vF z w hR h
theorem rkids_any (p:Nat) (vL vF:Value) (z:Int) (w:World) (hR:RS w p vL vF) (h0:1≤p) (h1:p≤216):Calls Tryz.prog 62 #[.agg (rsC p vL vF),.int .i64 z] w (IEnd w (KZ p z)):=
 (rkids_own p vL vF z w hR h0 h1).mono fun _ _ ⟨v,e,ho,hb⟩=>⟨v,e,ownV_sli ho,hb⟩
def TEnd (t:Int × Int × Bool) (w:World) (e:Ending) (w':World):Prop:=e=.returned (.tuple #[.int .i64 t.1,.int .i64 t.2.1,.bool t.2.2])∧Below w.heap.size w w'
theorem KZ_nat (p q:Nat) (h:q < itn p):KZ p (q:Int)=if p≤q then kz p q (many p q) else []:=by
 unfold KZ
 by_cases hp:p≤q
 ·rw [if_pos hp,if_pos ⟨by omega,by omega⟩,Int.toNat_natCast]
 ·rw [if_neg hp,if_neg (by omega)]
theorem rparent_any (p:Nat) (vL vF:Value) (z:Int) (w:World) (hR:RS w p vL vF) (h0:1≤p) (h1:p≤216):Calls Tryz.prog 64 #[.agg (rsC p vL vF),.int .i64 z] w (TEnd (PZ p z) w):=by
 have hkid:=fun (q:Nat) wx h=>rkids_any p vL vF (q:Int) wx h h0 h1
 have hfound:=fun q j hq hqt hj hz=>PZ_found p q j z h0 h1 hq hqt hj hz
 have hnone:=PZ_none p z h0 h1
 obtain ⟨aL,cL,rfl⟩:=hR.l.hd
 rw [zL_length] at *
 have hkn:=fun q h=>KZ_nat p q h
 have hbig:=(itn_big p h0 h1).2
 have hA:=at_new w (rsC p (.slice aL (itn p) cL) vF) 37
 have hb:Below w.heap.size w (w.alloc (.cells (rsC p (.slice aL (itn p) cL) vF) 37)):=(Below.refl _ _).alloc (Nat.le_refl _) _
 have c1:(w.alloc (.cells (rsC p (.slice aL (itn p) cL) vF) 37)).cell? ⟨w.heap.size,1,none⟩=some (.slice aL (itn p) cL):=(hA.cell 1).trans rfl
 have hR1:=hR.below hb
 have ms:(rsC p (.slice aL (itn p) cL) vF).size=3:=rfl
 obtain ⟨vA,hvA⟩:∃ v,v=Value.slice aL (itn p) cL:=⟨_,rfl⟩
 obtain ⟨M,hM⟩:∃ M,M=rsC p (.slice aL (itn p) cL) vF:=⟨_,rfl⟩
 obtain ⟨n,hn⟩:∃ n,n=itn p:=⟨_,rfl⟩
 rw [←hvA] at hR1
 rw [←hM] at hkid hA hb c1 ms ⊢
 rw [←hvA] at hkid
 obtain ⟨w1,hw1⟩:∃ w1,w1=w.alloc (.cells M 37):=⟨_,rfl⟩
 have hR1':RS w1 p vA vF:=by rw [hw1,hM,←hvA];exact hR1
 rw [←hw1] at hA c1 hb
 rw [←hn] at c1 hkn hbig hfound hnone
 obtain ⟨R,hRR⟩:∃ R,R=PZ p z:=⟨_,rfl⟩
 rw [←hRR] at hfound hnone ⊢
 have KID:=zh hkid;have AX:=zh hA;have HB:=zh hb;have MS:=zh ms;have C1:=zh c1;have R1:=zh hR1';have FOUND:=zh hfound;have NONE:=zh hnone;have KN:=zh hkn;have LT0:=zh hA.lt
 clear hkid hA hb ms c1 hR1 hR1' hfound hnone hkn hM hn hvA hRR hR h0 h1
 go_enter Tryz.func64,Tryz.ntmps64
 go_upto_region 1 with fail
 rw [←hw1]
 clear hw1
 go_wp2_with fail
 go_loopw [7] (fun v wr=>∃ q:Nat,q≤n∧v=.int .i64 q∧Below w1.heap.size w1 wr∧∀ q',q' < q→p≤q'→∀ j,j < many p q'→((fst p q'+j:Nat):Int)≠z) (fun v _=>n - (intOf v).toNat)
 case atStart=>exact ⟨0,by omega,rfl,Below.refl _ _,fun q' hq'=>by omega⟩
 case round=>
  obtain ⟨q,hq,rfl,hbw,hno⟩:=hrel
  have cw:=(hbw.cell (p:=⟨w.heap.size,1,none⟩) LT0.out).trans C1.out
  have NO:=zh hno;have BW:=zh hbw
  clear hno
  by_cases hlt:q < n
  ·have hlt':(q:Int) < (n:Int):=by omega
   have AW:=zh (AX.out.below hbw AX.out.lt);have RW:=zh (R1.out.below hbw)
   have hk:=KN.out q hlt
   clear hbw
   go_wp2_with (refine wpList_load_all zr 37 _ zr w.heap.size zr _ Tryz.underlying37 zr M _ AW.out (by rw [MS.out];exact infoRS) ?_)
   refine (KID.out q wr RW.out).mono ?_
   rintro e w8 ⟨v8,rfl,hs8,hb8⟩
   have B8:Hid (Below w1.heap.size w1 w8):=zh (BW.out.trans (hb8.mono BW.out.size))
   obtain ⟨K,hK⟩:∃ K,K=KZ p (q:Int):=⟨_,rfl⟩
   rw [←hK] at hs8 hk
   obtain ⟨a8,c8,rfl⟩:=hs8.hd
   obtain ⟨m,hm⟩:∃ m,m=K.length:=⟨_,rfl⟩
   rw [←hm] at hs8 ⊢
   have hget:∀ j,j < m→p≤q∧j < many p q∧K.getD j 0=((fst p q+j:Nat):Int):=fun j hj=>by
    by_cases hp:p≤q
    ·rw [if_pos hp] at hk
     have hl:m=many p q:=by rw [hm,hk,kz_length]
     exact ⟨hp,by omega,by rw [hk];exact kz_get p q _ j (by omega)⟩
    ·rw [if_neg hp] at hk
     rw [hk] at hm;simp at hm;omega
   have hall:p≤q→many p q=m:=fun hp=>by rw [if_pos hp] at hk;rw [hm,hk,kz_length]
   have hm6:m≤6:=by
    by_cases hp:p≤q
    ·rw [←hall hp];exact many_le p q
    ·rw [if_neg hp] at hk;rw [hm,hk];exact Nat.zero_le _
   have SK:=zh hs8;have GET:=zh hget;have HM:=zh hm;have ALL:=zh hall
   clear hs8 hb8 hk hK hm hget hall AW RW cw BW
   go_wp2_with fail
   go_loop [9] (fun i=>∃ j:Nat,j≤m∧i=.int .i64 j∧Hid (∀ t,t < j→K.getD t 0≠z)) (fun i=>m - (intOf i).toNat)
   case atStart=>exact ⟨0,by omega,rfl,zh (fun t ht=>by omega)⟩
   case round=>
    obtain ⟨j,hj,rfl,hI⟩:=hrel
    by_cases hlj:j < m
    ·have hlj':(j:Int) < (m:Int):=by omega
     obtain ⟨b9,o9,e9,_,cx⟩:=sli_at (i:=j) SK.out HM.out hlj
     subst e9
     have hg:=GET.out j hlj
     obtain ⟨y,hy⟩:∃ y,y=K.getD j 0:=⟨_,rfl⟩
     rw [←hy] at cx hg
     by_cases hyz:y=z
     ·have hf:=FOUND.out q j hg.1 hlt hg.2.1 (by rw [←hg.2.2];exact hyz)
      have HF:=zh hf
      subst hyz
      clear hf hg hy hI
      go_wp2_with fail
      go_ret3
      exact ⟨by rw [HF.out];rfl,HB.out.trans (B8.out.mono HB.out.size)⟩
     ·have hI2:Hid (∀ t,t < j+1→K.getD t 0≠z):=zh (fun t ht=>by
       rcases Nat.lt_or_ge t j with h | h
       ·exact hI.out t h
       ·rw [show t=j by omega,←hy];exact hyz)
      clear hI hg hy
      go_wp2_with fail
      go_round
      case rel=>exact ⟨j+1,by omega,by go_num,hI2⟩
      case measure=>simp [intOf];omega
    ·have hjm:j=m:=by omega
     have hge:¬ (j:Int) < (m:Int):=by omega
     subst hjm
     have hno2:Hid (∀ q',q' < q+1→p≤q'→∀ t,t < many p q'→((fst p q'+t:Nat):Int)≠z):=zh (fun q' hq' hp t ht=>by
      rcases Nat.lt_or_ge q' q with h | h
      ·exact NO.out q' h hp t ht
      ·have e:q'=q:=by omega
       subst e
       have hm2:=ALL.out hp
       have hg:=GET.out t (by omega)
       have hi:=hI.out t (by omega)
       rw [hg.2.2] at hi
       exact hi)
     clear hI hlj hj
     go_wp2_with fail
     go_roundw
     case rel=>exact ⟨q+1,by omega,by go_num,B8.out,hno2.out⟩
     case measure=>simp [intOf];omega
  ·have hqn:q=n:=by omega
   have hge:¬ (q:Int) < (n:Int):=by omega
   subst hqn
   have hf:=NONE.out NO.out
   have HF:=zh hf
   clear hf hlt hq hbw
   go_wp2_with fail
   go_ret3
   exact ⟨by rw [HF.out];rfl,HB.out.trans (BW.out.mono HB.out.size)⟩
theorem rblock_any (p:Nat) (vL vF:Value) (z k:Int) (w:World) (hR:RS w p vL vF) (h1:itn p≤259):Calls Tryz.prog 65 #[.agg (rsC p vL vF),.int .i64 z,.int .i64 k] w fun e w'=>e=.returned (.int .i64 (BZ p z k))∧Below w.heap.size w w':=by
 have hhas:=fun wx h=>rhas_any p vL vF z wx h
 have hA:=at_new w (rsC p vL vF) 37
 have hb:Below w.heap.size w (w.alloc (.cells (rsC p vL vF) 37)):=(Below.refl _ _).alloc (Nat.le_refl _) _
 have hR1:=hR.below hb
 have ms:(rsC p vL vF).size=3:=rfl
 have hin:inS p z=decide (0≤z∧z < (itn p:Int)):=rfl
 unfold BZ
 obtain ⟨n,hn⟩:∃ n,n=itn p:=⟨_,rfl⟩
 rw [←hn] at hin h1 ⊢
 rw [hin] at hhas
 obtain ⟨M,hM⟩:∃ M,M=rsC p vL vF:=⟨_,rfl⟩
 rw [←hM] at hhas hA hb hR1 ms ⊢
 obtain ⟨w1,hw1⟩:∃ w1,w1=w.alloc (.cells M 37):=⟨_,rfl⟩
 rw [←hw1] at hA hb hR1
 have HAS:=zh (hhas w1 hR1);have AX:=zh hA;have HB:=zh hb;have MS:=zh ms
 clear hhas hA hb hR1 ms hM hn hin hR
 by_cases hz:0≤z∧z < (n:Int)
 ·rw [decide_eq_true hz] at HAS
  by_cases k0:0≤k
  ·by_cases k1:k≤1
   ·rw [if_pos ⟨hz,k0,k1⟩]
    obtain ⟨z0,zn⟩:=hz
    go_enter Tryz.func65,Tryz.ntmps65
    go_upto_region 1 with fail
    rw [←hw1]
    clear hw1
    go_wp2_with (refine wpList_load_all zr 37 _ zr w.heap.size zr _ Tryz.underlying37 zr M _ AX.out (by rw [MS.out];exact infoRS) ?_)
    refine HAS.out.mono ?_
    rintro e w2 ⟨rfl,hb2⟩
    have B2:Hid (Below w.heap.size w w2):=zh (HB.out.trans (hb2.mono HB.out.size))
    clear hb2 HAS
    go_wp2_with fail
    go_ret
    exact ⟨rfl,B2.out⟩
   ·rw [if_neg (fun h=>k1 h.2.2)]
    go_enter Tryz.func65,Tryz.ntmps65
    go_upto_region 1 with fail
    rw [←hw1]
    clear hw1 hz
    go_wp2_with (refine wpList_load_all zr 37 _ zr w.heap.size zr _ Tryz.underlying37 zr M _ AX.out (by rw [MS.out];exact infoRS) ?_)
    refine HAS.out.mono ?_
    rintro e w2 ⟨rfl,hb2⟩
    have B2:Hid (Below w.heap.size w w2):=zh (HB.out.trans (hb2.mono HB.out.size))
    clear hb2 HAS
    go_wp2_with fail
    go_ret
    exact ⟨rfl,B2.out⟩
  ·rw [if_neg (fun h=>k0 h.2.1)]
   go_enter Tryz.func65,Tryz.ntmps65
   go_upto_region 1 with fail
   rw [←hw1]
   clear hw1 hz
   go_wp2_with (refine wpList_load_all zr 37 _ zr w.heap.size zr _ Tryz.underlying37 zr M _ AX.out (by rw [MS.out];exact infoRS) ?_)
   refine HAS.out.mono ?_
   rintro e w2 ⟨rfl,hb2⟩
   have B2:Hid (Below w.heap.size w w2):=zh (HB.out.trans (hb2.mono HB.out.size))
   clear hb2 HAS
   go_wp2_with fail
   go_ret
   exact ⟨rfl,B2.out⟩
 ·rw [decide_eq_false hz] at HAS
  rw [if_neg (fun h=>hz h.1)]
  go_enter Tryz.func65,Tryz.ntmps65
  go_upto_region 1 with fail
  rw [←hw1]
  clear hw1 hz
  go_wp2_with (refine wpList_load_all zr 37 _ zr w.heap.size zr _ Tryz.underlying37 zr M _ AX.out (by rw [MS.out];exact infoRS) ?_)
  refine HAS.out.mono ?_
  rintro e w2 ⟨rfl,hb2⟩
  have B2:Hid (Below w.heap.size w w2):=zh (HB.out.trans (hb2.mono HB.out.size))
  clear hb2 HAS
  go_wp2_with fail
  go_ret
  exact ⟨rfl,B2.out⟩
def zP (p n:Nat):List Int:=(List.range n).map fun i=>(lev p i:Int)
theorem zP_length (p n:Nat):(zP p n).length=n:=by simp [zP]
theorem zP_succ (p n:Nat):zP p (n+1)=zP p n++[(lev p n:Int)]:=by simp [zP,List.range_succ]
theorem iz_zP (p n:Nat) (x:Int) (h:(lev p n:Int)=x):iz (zP p (n+1))=iz (zP p n)++[.int .i64 x]:=by rw [zP_succ,iz_snoc,h]
theorem iz_fstL (p n:Nat) (x:Int) (h:fstZ p n=x):iz (fstL p (n+1))=iz (fstL p n)++[.int .i64 x]:=by rw [fstL_succ,iz_snoc,h]
structure NS (u w:World) (g p:Nat) (vL vF:Value) (n m:Nat):Prop where
 z:At w u.heap.size (rsC 0 (.slice none 0 0) (.slice none 0 0)) 37
 s:At w g (rsC p vL vF) 37
 l:OwnV w (g+1) 3 vL (iz (zP p n))
 f:OwnV w (g+1) 3 vF (iz (fstL p m))
 ne:∀ b,vL.ownBlock=some b→vF.ownBlock≠some b
 b:Below u.heap.size u w
 h:g=u.heap.size+1
theorem NS.gt {u w:World} {g p n m:Nat} {vL vF:Value} (h:NS u w g p vL vF n m):g+1≤w.heap.size:=h.s.lt
theorem NS.c1 {u w:World} {g p n m:Nat} {vL vF:Value} (h:NS u w g p vL vF n m):w.cell? ⟨g,1,none⟩=some vL:=(h.s.cell 1).trans rfl
theorem NS.c2 {u w:World} {g p n m:Nat} {vL vF:Value} (h:NS u w g p vL vF n m):w.cell? ⟨g,2,none⟩=some vF:=(h.s.cell 2).trans rfl
theorem NS.appL {u w w6 w7:World} {g p n m:Nat} {vL vF v6:Value} (h:NS u w g p vL vF n m)
 (ho:OwnV w6 (g+1) 3 v6 (iz (zP p (n+1)))) (hk:∀ k,k < w.heap.size→vL.ownBlock≠some k→w6.heap[k]?=w.heap[k]?) (hb:Below (g+1) w w6) (hf:v6.ownBlock=vL.ownBlock∨∃ b,v6.ownBlock=some b∧w.heap.size≤b)
 (ha:At w7 g ((rsC p vL vF).setIfInBounds 1 v6) 37) (hq:∀ k,k≠g→w7.heap[k]?=w6.heap[k]?) (hB:∀ B a,Below B a w6→B≤g→Below B a w7):NS u w7 g p v6 vF (n+1) m:=by
 have hg:=h.h
 refine ⟨?_,ha,?_,?_,?_,hB _ _ (h.b.trans (hb.mono (by omega))) (by omega),hg⟩
 ·exact at_keep (h.z.below hb (by omega)) hq (by omega)
 ·exact OwnV.keep ho (fun b hb'=>hq b (by have:=(OwnV.lt ho b hb').1;omega))
 ·refine OwnV.keep h.f (fun b hb'=>?_)
  have hl:=OwnV.lt h.f b hb'
  rw [hq b (by omega)]
  exact hk b hl.2 (fun e=>h.ne b e hb')
 ·intro b h1 h2
  rcases hf with e | ⟨b',e,hge⟩
  ·rw [e] at h1;exact h.ne b h1 h2
  ·rw [e] at h1;injection h1 with h1;subst h1
   have:=(OwnV.lt h.f _ h2).2
   omega
theorem NS.appF {u w w6 w7:World} {g p n m:Nat} {vL vF v6:Value} (h:NS u w g p vL vF n m)
 (ho:OwnV w6 (g+1) 3 v6 (iz (fstL p (m+1)))) (hk:∀ k,k < w.heap.size→vF.ownBlock≠some k→w6.heap[k]?=w.heap[k]?) (hb:Below (g+1) w w6) (hf:v6.ownBlock=vF.ownBlock∨∃ b,v6.ownBlock=some b∧w.heap.size≤b)
 (ha:At w7 g ((rsC p vL vF).setIfInBounds 2 v6) 37) (hq:∀ k,k≠g→w7.heap[k]?=w6.heap[k]?) (hB:∀ B a,Below B a w6→B≤g→Below B a w7):NS u w7 g p vL v6 n (m+1):=by
 have hg:=h.h
 refine ⟨?_,ha,?_,?_,?_,hB _ _ (h.b.trans (hb.mono (by omega))) (by omega),hg⟩
 ·exact at_keep (h.z.below hb (by omega)) hq (by omega)
 ·refine OwnV.keep h.l (fun b hb'=>?_)
  have hl:=OwnV.lt h.l b hb'
  rw [hq b (by omega)]
  exact hk b hl.2 (fun e=>h.ne b hb' e)
 ·exact OwnV.keep ho (fun b hb'=>hq b (by have:=(OwnV.lt ho b hb').1;omega))
 ·intro b h1 h2
  rcases hf with e | ⟨b',e,hge⟩
  ·rw [e] at h2;exact h.ne b h1 h2
  ·rw [e] at h2;injection h2 with h2;subst h2
   have:=(OwnV.lt h.l _ h1).2
   omega
theorem NS.at6 {u w w6:World} {g p n m:Nat} {vL vF v:Value} (h:NS u w g p vL vF n m) (hk:∀ k,k < w.heap.size→v.ownBlock≠some k→w6.heap[k]?=w.heap[k]?) (hv:v=vL∨v=vF):At w6 g (rsC p vL vF) 37:=by
 refine At.app h.s hk (fun e=>?_)
 rcases hv with rfl | rfl
 ·have:=(OwnV.lt h.l _ e).1;omega
 ·have:=(OwnV.lt h.f _ e).1;omega
theorem NS.out {u w:World} {g p n m:Nat} {vL vF:Value} (h:NS u w g p vL vF n m) (hn:n=itn p) (hm:m=itn p) {w':World} (_hl:w'.heap.size=w.heap.size) (hk:∀ k,k≠u.heap.size→w'.heap[k]?=w.heap[k]?):RS w' p vL vF:=by
 subst hn hm
 refine ⟨(ownV_sli (OwnV.keep h.l (fun b hb=>hk b ?_))),(ownV_sli (OwnV.keep h.f (fun b hb=>hk b ?_)))⟩
 ·have:=(OwnV.lt h.l b hb).1;have:=h.h;omega
 ·have:=(OwnV.lt h.f b hb).1;have:=h.h;omega
theorem stn_le (p k:Nat) (hk:k≤3) (h1:p≤216):stn p k≤300∧lvn p k≤216:=by
 match k,hk with
 | 0,_=>simp [stn,lvn];omega
 | 1,_=>simp [stn,lvn,cnt];omega
 | 2,_=>simp [stn,lvn,cnt];omega
 | 3,_=>simp [stn,lvn,cnt];omega
theorem RS.one {w:World} {p:Nat} {vL vF:Value} (h:RS w p vL vF):(rsC p vL vF).all (·.oneCell')=true:=by
 obtain ⟨a,c,rfl⟩:=h.l.hd
 obtain ⟨b,d,rfl⟩:=h.f.hd
 exact rsC_one _ _ _ _ _ _ _
theorem lev_low (p i:Nat) (h:i < p):lev p i=0:=if_pos h
theorem fstZ_low (p i:Nat) (h:i < p):fstZ p i=-1:=if_pos h
theorem zeroShR (w:World):(zeroValue 37).run Tryz.prog w=.ok (.agg (rsC 0 (.slice none 0 0) (.slice none 0 0))) w:=by kernel_rfl
theorem buildShR (p:Nat) (w:World):(Instr.build 37 #[(0,.int .i64 (p:Int))]).run Tryz.prog w=.ok (.agg (rsC p (.slice none 0 0) (.slice none 0 0))) w:=by kernel_rfl
theorem infoSlInt:(Tryz.prog.info? 35).map (·.size)=some 1:=by kernel_rfl
theorem oneV {w:World} {B:Nat} {e:TypeId} {v:Value} {xs:List Value} (h:OwnV w B e v xs):v.oneCell'=true:=by
 obtain ⟨a,c,rfl,_⟩:=OwnV.open h;rfl
theorem rnew_any (p:Nat) (w:World) (h0:1≤p) (h1:p≤216):Calls Tryz.prog 9 #[.int .i64 p] w fun e w'=>∃ vL vF,e=.returned (.tuple #[.agg (rsC p vL vF),.int .i64 0])∧RS w' p vL vF∧Below w.heap.size w w':=by
 obtain ⟨Z,hZ⟩:∃ Z,Z=rsC 0 (.slice none 0 0) (.slice none 0 0):=⟨_,rfl⟩
 obtain ⟨D,hD⟩:∃ D,D=rsC p (.slice none 0 0) (.slice none 0 0):=⟨_,rfl⟩
 have hx:∀ w,(zeroValue 37).run Tryz.prog w=.ok (.agg Z) w:=by rw [hZ];exact zeroShR
 have bn:∀ w,(Instr.build 37 #[(0,.int .i64 (p:Int))]).run Tryz.prog w=.ok (.agg D) w:=by rw [hD];exact buildShR p
 have zs:Z.size=3:=by rw [hZ];rfl
 have ds:D.size=3:=by rw [hD];rfl
 have hd1:D.all (·.oneCell')=true:=by rw [hD];exact rsC_one _ _ _ _ _ _ _
 have hns:∀ w1 w2,w1=w.alloc (.cells Z 37)→w2=w1.alloc (.cells D 37)→NS w w2 w1.heap.size p (.slice none 0 0) (.slice none 0 0) 0 0:=by
  intro w1 w2 e1 e2
  have hs:w1.heap.size=w.heap.size+1:=by rw [e1];simp
  have hA1:At w1 w.heap.size Z 37:=by rw [e1];exact at_new w Z _
  refine ⟨?_,?_,OwnV.nil _ _ _,OwnV.nil _ _ _,fun b e=>by simp [Value.ownBlock] at e,?_,hs⟩
  ·rw [←hZ,e2];exact hA1.alloc _
  ·rw [←hD,e2];exact at_new w1 D _
  ·rw [e2,e1];exact ((Below.refl _ _).alloc (Nat.le_refl _) _).alloc (by simp) _
 have hsz:∀ w1,w1=w.alloc (.cells Z 37)→w1.heap.size=w.heap.size+1:=fun w1 e1=>by rw [e1];simp
 have NW:=zh hns;have BN:=zh bn;have DS:=zh ds;have ZS:=zh zs;have DO:=zh hd1;have SZ:=zh hsz
 have g0:¬ (p:Int) < 1:=by omega
 have g1:¬ (216:Int) < (p:Int):=by omega
 clear hns bn ds zs hd1 hZ hD hsz
 go_enter Tryz.func9,Tryz.ntmps9
 go_upto_region 1 with fail
 obtain ⟨w1,hw1⟩:∃ w1,w1=w.alloc (.cells Z 37):=⟨_,rfl⟩
 have S1:=zh (SZ.out w1 hw1)
 have NV:=zh (fun w2 h=>NW.out w1 w2 hw1 h)
 rw [←hw1]
 clear hw1 SZ NW
 go_wp2_with (first
  | (refine Mem.wpList_build zr 37 _ #[(0,.int .i64 (p:Int))] (.agg D) zr (by first | rfl | (simp [Act.eval];rfl) | simp [Act.eval]) BN.out ?_)
  | (refine wpList_store_new zr 37 _ _ zr zr D _ _ zr zr (by rw [DS.out];exact infoRS) (by rw [DS.out,ZS.out]) DO.out ?_;clear hx;have N0:=zh (NV.out _ rfl);clear NV;generalize w1.alloc (.cells D 37)=w2 at *))
 go_loopw [5] (fun v wr=>∃ i:Nat,i≤p∧v=.int .i64 i∧∃ vL vF,NS w wr w1.heap.size p vL vF i i) (fun v _=>p - (intOf v).toNat)
 case atStart=>exact ⟨0,by omega,rfl,_,_,N0.out⟩
 case round=>
  clear N0
  obtain ⟨i,hi,rfl,vL,vF,hn⟩:=hrel
  by_cases hlt:i < p
  ·have hlt':(i:Int) < (p:Int):=by omega
   have c1:=hn.c1
   have N0:=zh hn
   have LL:Hid ((iz (zP p i)).length=i):=zh (by rw [iz_length,zP_length])
   have LF:Hid ((iz (fstL p i)).length=i):=zh (by rw [iz_length,fstL_length])
   have EL:=zh (iz_zP p i 0 (by rw [lev_low p i hlt];rfl))
   have EF:=zh (iz_fstL p i (-1) (fstZ_low p i hlt))
   clear hn
   go_wp2_with (first
    | (at_builtin;refine wpList_append_lit zr _ _ 35 zr (.int .i64 (0)) (.int .i64 0) 8 elemInt zr zr N0.out.l zr zr (by rw [LL.out];omega) (by rw [LL.out];omega) (N0.out.gt) ?_;intro v6L w6L ho6 hk6 hb6 hf6;have O6:=zh ho6;have K6:=zh hk6;have B6:=zh hb6;have F6:=zh hf6;clear ho6 hk6 hb6 hf6)
    | (refine Mem.wpList_store_one zr 35 _ _ zr zr w1.heap.size 1 v6L zr zr (oneV O6.out) infoSlInt (rsC p vL vF) 37 (N0.out.at6 K6.out (Or.inl rfl)) (by exact (by decide:1 < 3)) ?_;intro w7 ha7 hq7 hB7;have N1:=zh (N0.out.appL (by rw [EL.out];exact O6.out) K6.out B6.out F6.out ha7 hq7 hB7);have c2:=N1.out.c2;clear ha7 hq7 hB7 O6 K6 B6 F6 N0)
    | (at_builtin;refine wpList_append_lit zr _ _ 35 zr (.int .i64 (-1)) (.int .i64 0) 8 elemInt zr zr N1.out.f zr zr (by rw [LF.out];omega) (by rw [LF.out];omega) (N1.out.gt) ?_;intro v6 w6 ho6 hk6 hb6 hf6;have P6:=zh ho6;have K6:=zh hk6;have B6:=zh hb6;have F6:=zh hf6;clear ho6 hk6 hb6 hf6)
    | (refine Mem.wpList_store_one zr 35 _ _ zr zr w1.heap.size 2 v6 zr zr (oneV P6.out) infoSlInt (rsC p v6L vF) 37 (N1.out.at6 K6.out (Or.inr rfl)) (by exact (by decide:2 < 3)) ?_;intro w9 ha7 hq7 hB7;have N2:=zh (N1.out.appF (by rw [EF.out];exact P6.out) K6.out B6.out F6.out ha7 hq7 hB7);clear ha7 hq7 hB7 P6 K6 B6 F6 N1))
   go_roundw
   case rel=>exact ⟨i+1,by omega,by go_num,_,_,N2.out⟩
   case measure=>simp [intOf];omega
  ·have hip:i=p:=by omega
   have hge:¬ (i:Int) < (p:Int):=by omega
   subst hip
   have N0:=zh hn
   clear hn hlt hi hge
   have N9:Hid (∃ vL vF,NS w wr w1.heap.size i vL vF (stn i 1) (stn i 1)):=zh ⟨vL,vF,N0.out⟩
   clear N0
   go_wp2_with fail
   go_loopw [6,7,8] (fun vf vm v wx=>∃ k:Nat,∃ lz:Int,k≤topn i∧lz=(k:Int)+1∧vf=.int .i64 (stn i k:Nat)∧vm=.int .i64 (lvn i k:Nat)∧v=.int .i64 lz∧∃ vL vF,NS w wx w1.heap.size i vL vF (stn i (k+1)) (stn i (k+1))) (fun _ _ v _=>5 - (intOf v).toNat)
   case atStart=>exact ⟨0,1,by omega,rfl,rfl,rfl,rfl,N9.out⟩
   case round=>
    clear N9
    obtain ⟨k,lz,hk,hlz,rfl,rfl,rfl,vL,vF,hn⟩:=hrel
    have N0:=zh hn
    clear hn
    have ht:=top_le i
    have hti:=top_iff i k h0 h1 (by omega)
    have S2:=zh (stn_lvn i k (by omega))
    obtain ⟨c,hc⟩:∃ c,c=lvn i k:=⟨_,rfl⟩
    rw [←hc] at hti S2 ⊢
    by_cases hgo:k+1≤topn i
    ·have hk2:k≤2:=by omega
     have hor:=hti.mpr hgo
     have S3:=zh (stn_lvn i (k+1) (by omega))
     have hcn:=lvn_cnt i k hk2
     have LA:=zh (fun j hj=>lev_at i (k+1) j (by omega) hj)
     have FA:=zh (fun j hj=>fstZ_at i k j hk2 hj)
     rw [←hc] at hcn
     have hcd:∀ j:Nat,(6*(j:Int) < (c:Int)) ↔ j < lvn i (k+1):=fun j=>by rw [hcn];unfold cnt;omega
     obtain ⟨d,hd⟩:∃ d,d=lvn i (k+1):=⟨_,rfl⟩
     obtain ⟨sk,hsk⟩:∃ sk,sk=stn i k:=⟨_,rfl⟩
     obtain ⟨sm,hsm⟩:∃ sm,sm=stn i (k+1):=⟨_,rfl⟩
     rw [←hd] at hcd S3 LA FA
     rw [←hsk] at FA S2 ⊢
     rw [←hsm] at S2 LA FA S3 N0
     have bs:=stn_le i k (by omega) h1
     have bm:=stn_le i (k+1) (by omega) h1
     rw [←hsk,←hc] at bs
     rw [←hsm,←hd] at bm
     have HT:=zh hgo;have HC:=zh hcd;have HS:=zh hsm;have HD:=zh hd;have H0:=zh h0;have HL:=zh hlz;have z0:0≤lz:=by omega
     have z9:lz≤4:=by omega
     have hcase:k=0∨(¬ k=0∧1 < c):=by omega
     clear hti hor hcn hcd hc hd hsk hsm hk ht hgo h0
     go_upto_region 11 with fail
     go_cut [41] (fun x wx=>x=.bool true∧wx=wr)
     case first=>
      rcases hcase with hk0 | ⟨hk0,hc1⟩
      ·have e1:lz=1:=by omega
       go_wp2_with fail
       go_meet
       exact ⟨rfl,rfl⟩
      ·have e1:¬ lz=1:=by omega
       have e2:(1:Int) < (c:Int):=by omega
       clear hlz
       go_wp2_with fail
       go_meet
       exact ⟨rfl,rfl⟩
     obtain ⟨rfl,rfl⟩:=hcut
     clear hcase hlz
     go_wp2_with fail
     go_loopw [9,10] (fun vn vq wx=>∃ j:Nat,∃ q:Int,j≤d∧q=6*(j:Int)∧vn=.int .i64 j∧vq=.int .i64 q∧∃ vL vF,NS w wx w1.heap.size i vL vF (sm+j) (sm+j)) (fun vn _ _=>d - (intOf vn).toNat)
     case atStart=>exact ⟨0,0,by omega,by omega,rfl,rfl,_,_,N0.out⟩
     case round=>
      clear N0 vL vF
      obtain ⟨j,q,hj,hq,rfl,rfl,vL,vF,hn⟩:=hrel
      by_cases hjd:j < d
      ·have hlt:q < (c:Int):=by rw [hq];exact (HC.out j).mpr hjd
       have c1:=hn.c1
       have N0:=zh hn
       have LL:Hid ((iz (zP i (sm+j))).length=sm+j):=zh (by rw [iz_length,zP_length])
       have LF:Hid ((iz (fstL i (sm+j))).length=sm+j):=zh (by rw [iz_length,fstL_length])
       have EL:=zh (iz_zP i (sm+j) lz (by rw [LA.out j hjd,HL.out];omega))
       have EF:=zh (iz_fstL i (sm+j) ((sk:Int)+q) (by rw [FA.out j hjd,hq];omega))
       have q0:0≤q:=by omega
       have q1:q≤216:=by omega
       have HQ:=zh hq
       clear hn hq
       go_wp2_with (first
        | (at_builtin;refine wpList_append_lit zr _ _ 35 zr (.int .i64 lz) (.int .i64 0) 8 elemInt zr zr N0.out.l zr zr (by rw [LL.out];omega) (by rw [LL.out];omega) (N0.out.gt) ?_;intro v6L w6L ho6 hk6 hb6 hf6;have O6:=zh ho6;have K6:=zh hk6;have B6:=zh hb6;have F6:=zh hf6;clear ho6 hk6 hb6 hf6)
        | (refine Mem.wpList_store_one zr 35 _ _ zr zr w1.heap.size 1 v6L zr zr (oneV O6.out) infoSlInt (rsC i vL vF) 37 (N0.out.at6 K6.out (Or.inl rfl)) (by exact (by decide:1 < 3)) ?_;intro w7 ha7 hq7 hB7;have N1:=zh (N0.out.appL (by rw [EL.out];exact O6.out) K6.out B6.out F6.out ha7 hq7 hB7);have c2:=N1.out.c2;clear ha7 hq7 hB7 O6 K6 B6 F6 N0)
        | (at_builtin;refine wpList_append_lit zr _ _ 35 zr (.int .i64 ((sk:Int)+q)) (.int .i64 0) 8 elemInt zr zr N1.out.f zr zr (by rw [LF.out];omega) (by rw [LF.out];omega) (N1.out.gt) ?_;intro v6 w6 ho6 hk6 hb6 hf6;have P6:=zh ho6;have K6:=zh hk6;have B6:=zh hb6;have F6:=zh hf6;clear ho6 hk6 hb6 hf6)
        | (refine Mem.wpList_store_one zr 35 _ _ zr zr w1.heap.size 2 v6 zr zr (oneV P6.out) infoSlInt (rsC i v6L vF) 37 (N1.out.at6 K6.out (Or.inr rfl)) (by exact (by decide:2 < 3)) ?_;intro w9 ha7 hq7 hB7;have N2:=zh (N1.out.appF (by rw [EF.out];exact P6.out) K6.out B6.out F6.out ha7 hq7 hB7);clear ha7 hq7 hB7 P6 K6 B6 F6 N1))
       go_roundw
       case rel=>exact ⟨j+1,q+6,by omega,by rw [HQ.out];omega,by go_num,by go_num,_,_,N2.out⟩
       case measure=>simp [intOf];omega
      ·have hje:j=d:=by omega
       have hge:¬ q < (c:Int):=by rw [hq];exact fun h=>hjd ((HC.out j).mp h)
       subst hje
       have N0:=zh hn
       clear hn hq hj hjd
       go_wp2_with fail
       go_roundw
       case rel=>exact ⟨k+1,lz+1,HT.out,by rw [HL.out];omega,by rw [←HS.out,S2.out];go_num,by rw [←HD.out],by go_num,_,_,by rw [S3.out];exact N0.out⟩
       case measure=>simp [intOf];omega
    ·have hkt:k=topn i:=by omega
     have hk1:¬ lz=1:=by omega
     have hc1:¬ (1:Int) < (c:Int):=by omega
     have hit:stn i (k+1)=itn i:=by rw [hkt];rfl
     obtain ⟨M,hM⟩:∃ M,M=rsC i vL vF:=⟨_,rfl⟩
     have ms:M.size=3:=by rw [hM];rfl
     have mo:M.all (·.oneCell')=true:=by
      obtain ⟨a1,c1,e1,_⟩:=OwnV.open N0.out.l
      obtain ⟨a2,c2,e2,_⟩:=OwnV.open N0.out.f
      rw [hM,e1,e2];exact rsC_one _ _ _ _ _ _ _
     have az:=N0.out.z
     have hs9:=N0.out.s
     have hz:∀ w',w'=wr.setRow w.heap.size M→RS w' i vL vF∧Below w.heap.size w w':=by
      rintro w' rfl
      exact ⟨N0.out.out hit hit (by simp) (fun k hk=>setRow_other wr w.heap.size k M hk),below_row N0.out.b (Nat.le_refl _) M⟩
     rw [←hM] at hs9
     have MS:=zh ms;have MO:=zh mo;have AZ:=zh az;have AS:=zh hs9;have ZZ:=zh hz;have HM:=zh hM
     clear ms mo az hs9 hz hM hti hit hkt hgo hk ht hlz hc S2 h0 N0
     go_wp2_with (first
      | (refine wpList_load_all zr 37 _ zr w1.heap.size zr _ Tryz.underlying37 zr M _ AS.out (by rw [MS.out];exact infoRS) ?_)
      | (refine wpList_store_all zr 37 _ _ zr zr w.heap.size M zr zr (by rw [MS.out];exact infoRS) _ 37 AZ.out (by rw [MS.out];rfl) MO.out ?_))
     try simp only [Exit.inBlock,Exit.then]
     refine ret_row_tmp zr w.heap.size 37 M _ _ zr zr (AZ.out.row M) Tryz.underlying37 zr (by rw [MS.out];exact infoRS) ?_
     exact ⟨vL,vF,by rw [←HM.out];rfl,ZZ.out _ rfl⟩
end Sha
end Go.Proofs.YtplmfmpbkjnbaaaGreatDoor
