/- My own texts, merged. -/
import Derived.Test.YtlhnegbjoncieaaGreatDoorBL07
import Derived.Test.YtlhnegbjoncieaaGreatDoorBL11
import Derived.Test.YtlhnegbjoncieaaGreatDoorBL00
import Derived.Maps.AppendAt
import Derived.OwnWalk
import Derived.Test.YtlhnegbjoncieaaGreatDoorBL14
import Derived.Test.YtlhnegbjoncieaaGreatDoorBL04
import Derived.Test.YtlhnegbjoncieaaGreatDoorBL09
set_option maxRecDepth 100000
set_option maxHeartbeats 1000000
namespace Go.Proofs.YtlhnegbjoncieaaGreatDoor
namespace Sha
open Go.RowKit Mem
def Sls (w:World) (v:Value) (ps:List (Lb8)):Prop:=
 ∃ a cap,v=.slice a ps.length cap∧ps.length≤cap∧(ps≠[]→∃ pb po,a=some ⟨pb,po,none⟩∧pb < w.heap.size∧∀ i,i < ps.length→∃ vi,w.cell? ⟨pb,po+i,none⟩=some vi∧Sl w vi (ps.getD i []))
structure QInv (s:Fed) (n:Nat) (B:Nat) (w wr:World):Prop where
 c:At wr B (stRow s.H s.T n) 245
 z:At wr (B+1) Zst 245
 b:Below B w wr
theorem flat_take (ps:List (Lb8)) (j:Nat) (h:j < ps.length):(ps.take (j+1)).flatten=(ps.take j).flatten++ps.getD j []:=by
 have e:ps.getD j []=ps[j]:=by simp [h]
 rw [List.take_succ_eq_append_getElem h,e,List.flatten_append]
 simp only [List.flatten_cons,List.flatten_nil,List.append_nil]
theorem flat_take_le (ps:List (Lb8)) (j:Nat):(ps.take j).flatten.length≤ps.flatten.length:=by
 have e:ps.flatten=(ps.take j).flatten++(ps.drop j).flatten:=by rw [←List.flatten_append,List.take_append_drop]
 rw [e,List.length_append];omega
theorem feeds_mod (s:Fed) (hs:Ok s):∀ (l:Lb8) (n:Nat),n % 64=s.at'→(n+l.length) % 64=(feeds s l).at'
 | l,n,h=>by
  induction l generalizing s n with
  | nil=>simpa [feeds] using h
  | cons b l ih=>
   have hf:(n+1) % 64=(feed s b).at':=by
    unfold feed
    have:=hs.a
    split
    ·show _=0;omega
    ·show _=s.at'+1;omega
   have:=ih (feed s b) (feed_ok hs b) (n+1) hf
   rw [feeds,List.foldl_cons]
   rw [feeds] at this
   rw [←this,List.length_cons];omega
theorem writeAll_any (s:Fed) (hs:Ok s) (n:Nat) (hn:n % 64=s.at') (ps:List (Lb8)) (v:Value) (w:World) (hN:n+ps.flatten.length≤9223372036854775807) (hp:ps.length≤9223372036854775806) (hv:Sls w v ps) (hL:Tabs w) :
 Calls Tryz.prog 161 #[.agg (stRow s.H s.T n),v] w fun e w'=>e=.returned (.agg (stRow (feeds s ps.flatten).H (feeds s ps.flatten).T (n+ps.flatten.length)))∧Below w.heap.size w w':=by
 obtain ⟨a,cap,rfl,hcap,hcells⟩:=hv
 obtain ⟨RES,hRES⟩:∃ RES,RES=stRow (feeds s ps.flatten).H (feeds s ps.flatten).T (n+ps.flatten.length):=⟨_,rfl⟩
 rw [←hRES]
 have HRES:=zh hRES;clear hRES
 obtain ⟨C,hC⟩:∃ C,C=stRow s.H s.T n:=⟨_,rfl⟩
 obtain ⟨Z,hZ⟩:∃ Z,Z=Zst:=⟨_,rfl⟩
 obtain ⟨m,hm⟩:∃ m,m=ps.length:=⟨_,rfl⟩
 have hz:=zeroSt
 rw [←hZ] at hz
 rw [←hm] at hcap hp ⊢
 rw [←hC]
 have i0:QInv s n w.heap.size w ((w.alloc (.cells C 245)).alloc (.cells Z 245)):=by
  refine ⟨by rw [←hC];exact (at_new w C _).alloc _,?_,((Below.refl _ _).alloc (Nat.le_refl _) _).alloc (by simp) _⟩
  rw [←hZ]
  have:=at_new (w.alloc (.cells C 245)) Z 245
  simpa using this
 have HC:=zh hC;have HZ:=zh hZ;have HM:=zh hm;have I0:=zh i0;have HS:=zh hs;have HL:=zh hL;have HN:=zh hn;have HCE:=zh hcells
 clear hC hZ hm i0 hs hL hn hcells
 go_enter Tryz.func161,Tryz.ntmps161
 go_wp2_with fail
 clear hz
 go_loopw [6,9] (fun _ i wr=>∃ j:Nat,j≤m∧i=.int .i64 j∧QInv (feeds s (ps.take j).flatten) (n+(ps.take j).flatten.length) w.heap.size w wr) (fun _ i _=>m - (intOf i).toNat)
 case atStart=>exact ⟨0,by omega,rfl,by simpa [feeds] using I0.out⟩
 case round=>
  obtain ⟨j,hj,rfl,hI⟩:=hrel
  obtain ⟨F,hF⟩:∃ F,F=feeds s (ps.take j).flatten:=⟨_,rfl⟩
  obtain ⟨N,hNN⟩:∃ N,N=n+(ps.take j).flatten.length:=⟨_,rfl⟩
  have hok:=feeds_ok (ps.take j).flatten HS.out
  have hmd:=feeds_mod s HS.out (ps.take j).flatten n HN.out
  rw [←hF,←hNN] at hI hmd
  rw [←hF] at hok
  obtain ⟨R,hR⟩:∃ R,R=stRow F.H F.T N:=⟨_,rfl⟩
  have hc:=hI.c
  rw [←hR] at hc
  have hRs:R.size=73:=by rw [hR];exact stRow_size hok.h hok.t
  by_cases hlt:j < m
  ·obtain ⟨pb,po,ha,hpb,hpc⟩:=HCE.out (by intro e;have:=HM.out;rw [e] at this;simp at this;omega)
   subst ha
   obtain ⟨vi,hvi,hsl⟩:=hpc j (by rw [←HM.out];exact hlt)
   have hsl':=hsl.below hI.b
   have cv:wr.cell? ⟨pb,po+j,none⟩=some vi:=by rw [hI.b.cell (p:=⟨pb,po+j,none⟩) hpb];exact hvi
   have hft:=flat_take ps j (by rw [←HM.out];exact hlt)
   have hle:=flat_take_le ps (j+1)
   rw [hft,List.length_append] at hle
   have hcall:=write_any F hok N hmd (ps.getD j []) vi wr (by omega) hsl' (HL.out.below hI.b (Nat.le_refl _))
   rw [←hR] at hcall
   obtain ⟨E,hE⟩:∃ E,E=stRow (feeds F (ps.getD j [])).H (feeds F (ps.getD j [])).T (N+(ps.getD j []).length):=⟨_,rfl⟩
   rw [←hE] at hcall
   have hok2:=feeds_ok (ps.getD j []) hok
   have hEs:E.size=73:=by rw [hE];exact stRow_size hok2.h hok2.t
   have hEo:E.all (·.oneCell')=true:=by rw [hE];exact stRow_one
   have HF:=zh hF;have HNN:=zh hNN;have HR:=zh hR;have HRC:=zh hc;have HRS:=zh hRs;have HCALL:=zh hcall;have HE:=zh hE;have HES:=zh hEs;have HEO:=zh hEo;have HI:=zh hI;have HFT:=zh hft
   clear hF hNN hR hc hRs hcall hE hEs hEo hI hft hok hok2 hmd hpc hsl hsl' hvi hle
   go_wp2_with (first | (refine wpList_load_all zr 245 _ zr w.heap.size zr _ Tryz.underlying245 zr R _ HRC.out (by rw [HRS.out];exact infoSt) ?_) | (go_at_call 181;refine HCALL.out.mono ?_;rintro e w5 ⟨rfl,hb5⟩;have c5:=HRC.out.below hb5 HRC.out.lt;have C5:=zh c5;have HB5:=zh hb5;clear c5 hb5) | (refine wpList_store_all zr 245 _ _ zr zr w.heap.size E zr zr (by rw [HES.out];exact infoSt) R _ C5.out (by rw [HES.out,HRS.out]) HEO.out ?_))
   go_roundw
   case rel=>
    refine ⟨j+1,by omega,by go_num,?_⟩
    rw [HFT.out,feeds_append,←HF.out,List.length_append,←Nat.add_assoc,←HNN.out]
    have z5:=HI.out.z.below HB5.out HI.out.z.lt
    have b5:=HI.out.b.trans (HB5.out.mono HI.out.b.size)
    refine ⟨by rw [←HE.out];exact C5.out.row E,z5.row_other E (by omega),below_row b5 (Nat.le_refl _) E⟩
   case measure=>simp [intOf];omega
  ·have hjm:j=m:=by omega
   have hfl:ps.take j=ps:=List.take_of_length_le (by rw [hjm,HM.out];exact Nat.le_refl _)
   rw [hfl] at hF hNN
   have hge:¬ (j:Int) < (m:Int):=by omega
   have hRo:R.all (·.oneCell')=true:=by rw [hR];exact stRow_one
   have hfin:RES=R:=by rw [HRES.out,hR,hF,hNN]
   have HRC:=zh hc;have HRS:=zh hRs;have HRO:=zh hRo;have HFIN:=zh hfin;have HI:=zh hI
   clear hc hRs hRo hfin hI hF hNN hR hok hmd hjm hfl hj hlt
   go_wp2_with (first | (refine wpList_load_all zr 245 _ zr w.heap.size zr _ Tryz.underlying245 zr R _ HRC.out (by rw [HRS.out];exact infoSt) ?_) | (refine wpList_store_all zr 245 _ _ zr zr (w.heap.size+1) R zr zr (by rw [HRS.out];exact infoSt) _ _ HI.out.z (by rw [HRS.out,Zst_size]) HRO.out ?_))
   try simp only [Exit.inBlock,Exit.then]
   refine ret_row zr (w.heap.size+1) 245 R _ zr (HI.out.z.row R) Tryz.underlying245 zr (by rw [HRS.out];exact infoSt) ?_
   exact ⟨by rw [HFIN.out],below_row HI.out.b (by omega) R⟩
def fed0:Fed:=⟨List.replicate 8 0,zs64,0⟩
theorem fed0_ok:Ok fed0:=⟨by simp [fed0],by simp [fed0,zs64],by simp [fed0]⟩
def digestOf (l:Lb8):Lb8:=digest (feeds fed0 l) l.length
theorem digestOf_length (l:Lb8):(digestOf l).length=32:=dRow_length _ _
theorem Zst_one:Zst.all (·.oneCell')=true:=stRow_one
set_option maxRecDepth 10000 in
theorem new_any (w:World) :
 Calls Tryz.prog 160 #[] w fun e w'=>e=.returned (.agg (stRow fed0.H fed0.T 0))∧Below w.heap.size w w':=by
 obtain ⟨Z,hZ⟩:∃ Z,Z=Zst:=⟨_,rfl⟩
 have hz:=zeroSt
 rw [←hZ] at hz
 have hs:Z.size=73:=by rw [hZ];exact Zst_size
 have ho:Z.all (·.oneCell')=true:=by rw [hZ];exact Zst_one
 have HZ:=zh hZ;have HS:=zh hs;have HO:=zh ho
 clear hZ hs ho
 go_enter Tryz.func160,Tryz.ntmps160
 go_wp2_with (refine wpList_store_new zr 245 _ _ zr zr Z _ _ zr zr (by rw [HS.out];exact infoSt) zr HO.out ?_)
 try simp only [Exit.inBlock,Exit.then]
 refine ret_row zr w.heap.size 245 Z _ zr (at_new w Z _) Tryz.underlying245 zr (by rw [HS.out];exact infoSt) ?_
 exact ⟨by rw [HZ.out];rfl,(Below.refl _ _).alloc (Nat.le_refl _) _⟩
theorem Sls.below {w wr:World} {v:Value} {ps:List (Lb8)} (h:Sls w v ps) (hb:Below w.heap.size w wr):Sls wr v ps:=by
 obtain ⟨a,cap,e,hc,hr⟩:=h
 refine ⟨a,cap,e,hc,fun hne=>?_⟩
 obtain ⟨pb,po,ea,hlt,hcell⟩:=hr hne
 refine ⟨pb,po,ea,Nat.lt_of_lt_of_le hlt hb.size,fun i hi=>?_⟩
 obtain ⟨vi,h1,h2⟩:=hcell i hi
 exact ⟨vi,by rw [hb.cell (p:=⟨pb,po+i,none⟩) hlt];exact h1,h2.below hb⟩
set_option maxRecDepth 10000 in
theorem sumAll_any (ps:List (Lb8)) (v:Value) (w:World) (hN:ps.flatten.length≤1152921504606846975) (hp:ps.length≤9223372036854775806) (hv:Sls w v ps) (hL:Tabs w) :
 Calls Tryz.prog 135 #[v] w fun e w'=>e=.returned (.agg (u8s (digestOf ps.flatten)).toArray)∧Below w.heap.size w w':=by
 obtain ⟨X,hX⟩:∃ X,X=Z32:=⟨_,rfl⟩
 have hx:=zero32
 rw [←hX] at hx
 obtain ⟨S0,hS0⟩:∃ S0,S0=stRow fed0.H fed0.T 0:=⟨_,rfl⟩
 obtain ⟨S1,hS1⟩:∃ S1,S1=stRow (feeds fed0 ps.flatten).H (feeds fed0 ps.flatten).T (0+ps.flatten.length):=⟨_,rfl⟩
 obtain ⟨G,hG⟩:∃ G,G=(u8s (digestOf ps.flatten)).toArray:=⟨_,rfl⟩
 have hGs:G.size=32:=by rw [hG];simp [u8s,digestOf_length]
 have hGo:G.all (·.oneCell')=true:=by rw [hG];exact u8s_one _
 have h1:=fun w=>new_any w
 have h2:=fun wx (hvx:Sls wx v ps) (ht:Tabs wx)=>writeAll_any fed0 fed0_ok 0 rfl ps v wx (by omega) hp hvx ht
 have h3:=fun wx (ht:Tabs wx)=>sum_any (feeds fed0 ps.flatten) (feeds_ok _ fed0_ok) (0+ps.flatten.length) (feeds_mod fed0 fed0_ok ps.flatten 0 rfl) wx (by omega) ht
 rw [←hS0] at h1 h2
 rw [←hS1] at h2 h3
 have e3:digest (feeds fed0 ps.flatten) (0+ps.flatten.length)=digestOf ps.flatten:=by rw [Nat.zero_add];rfl
 rw [e3,←hG] at h3
 rw [←hG]
 have b0:Below w.heap.size w (w.alloc (.cells X 22)):=(Below.refl _ _).alloc (Nat.le_refl _) _
 have a0:At (w.alloc (.cells X 22)) w.heap.size X 22:=at_new w X _
 have HX:=zh hX;have HGS:=zh hGs;have HGO:=zh hGo;have H1:=zh h1;have H2:=zh h2;have H3:=zh h3;have B0:=zh b0;have A0:=zh a0;have HV:=zh hv;have HL:=zh hL
 clear hX hGs hGo h1 h2 h3 b0 a0 hv hL e3 hS0 hS1 hG
 go_enter Tryz.func135,Tryz.ntmps135
 go_wp2_with (first | (go_at_call 160;refine (H1.out _).mono ?_;rintro e w2 ⟨rfl,hb2⟩;have bb2:=B0.out.trans (hb2.mono B0.out.size);have aa2:=A0.out.below hb2 A0.out.lt;have B2:=zh bb2;have A2:=zh aa2;clear hb2 bb2 aa2) | (go_at_call 161;refine (H2.out _ (HV.out.below B2.out) (HL.out.below B2.out (Nat.le_refl _))).mono ?_;rintro e w3 ⟨rfl,hb3⟩;have bb3:=B2.out.trans (hb3.mono B2.out.size);have aa3:=A2.out.below hb3 A2.out.lt;have B3:=zh bb3;have A3:=zh aa3;clear hb3 bb3 aa3) | (go_at_call 162;refine (H3.out _ (HL.out.below B3.out (Nat.le_refl _))).mono ?_;rintro e w4 ⟨rfl,hb4⟩;have bb4:=B3.out.trans (hb4.mono B3.out.size);have aa4:=A3.out.below hb4 A3.out.lt;have B4:=zh bb4;have A4:=zh aa4;clear hb4 bb4 aa4) | (refine wpList_store_all zr 22 _ _ zr zr w.heap.size G zr zr (by rw [HGS.out];exact info32) X _ A4.out (by rw [HGS.out,HX.out];simp [Z32,u8s]) HGO.out ?_))
 try simp only [Exit.inBlock,Exit.then]
 refine ret_row zr w.heap.size 22 G _ zr (A4.out.row G) Tryz.underlying22 zr (by rw [HGS.out];exact info32) ?_
 exact ⟨rfl,below_row B4.out (Nat.le_refl _) G⟩
def st (x:BitVec 32):BitVec 32:=x.rotateRight 1
def it (x:BitVec 32):Nat→BitVec 32
 | 0=>x
 | k+1=>st (it x k)
theorem sls_lit1 {w:World} {v:Value} {l:Lb8} (h:Sl w v l):Sls (w.alloc (.cells #[v] 31)) (.slice (some ⟨w.heap.size,0,none⟩) 1 1) [l]:=by
 have hn:=at_new w #[v] 31
 refine ⟨_,_,rfl,Nat.le_refl _,fun _=>⟨_,_,rfl,hn.lt,fun i hi=>?_⟩⟩
 match i,hi with
 | 0,_=>exact ⟨v,by rw [hn.cell];rfl,h.below ((Below.refl _ _).alloc (Nat.le_refl _) _)⟩
def readTo (n:Nat) (d:Lb8) (l:List (Nat × Lb8)):Nat→Lb8
 | 0=>d
 | j+1=>if (l.getD j (0,[])).1=n then (l.getD j (0,[])).2 else readTo n d l j
def blkOf (b:Lb8) (n:Nat):Lb8:=(b.drop (n*256)).take 256
abbrev rq (br:Nat):Value:=.pointer (some ⟨br,0,none⟩)
def zeroPut:Value:=.agg #[.int .i64 0,.slice none 0 0]
theorem elemRI:elemR Tryz.prog 61 3 (.int .i64 0) 1 8:=⟨Tryz.underlying61,by kernel_rfl⟩
theorem infoInts:(Tryz.prog.info? 61).map (·.size)=some 1:=by kernel_rfl
def dvWrite (s:St6) (n:Nat) (x:Lb8):St6:={ s with w:=s.w++[(n,x)],t:=s.t++[(n:Int)] }
theorem own_hd {w:World} {B n:Nat} {v:Value} {l:Lb8} (h:OwnB w B v l) (hn:n=l.length):∃ a c,v=.slice a n c:=by
 obtain ⟨a,c,rfl,_⟩:=h.open
 exact ⟨a,c,by rw [hn]⟩
def flushTo (l:List (Nat × Lb8)) (b:Lb8):Nat→Lb8
 | 0=>b
 | j+1=>laidB (flushTo l b j) ((l.getD j (0,[])).1*256) (l.getD j (0,[])).2
def WfP (n:Nat) (l:List (Nat × Lb8)):Prop:=∀ j,j < l.length→(l.getD j (0,[])).1 < n∧(l.getD j (0,[])).2.length=256
theorem flushTo_length {n:Nat} {l:List (Nat × Lb8)} {b:Lb8} (h:WfP n l) (hb:b.length=n*256):∀ j,j≤l.length→(flushTo l b j).length=n*256
 | 0,_=>hb
 | j+1,hj=>by
  have h1:=flushTo_length h hb j (by omega)
  obtain ⟨h2,h3⟩:=h j (by omega)
  rw [flushTo,laidL_length _ _ _ (by rw [h1,h3];omega),h1]
def stFlush (s:St6):St6:={ s with b:=flushTo s.w s.b s.w.length,w:=[],t:=s.t++[-1] }
end Sha
end Go.Proofs.YtlhnegbjoncieaaGreatDoor
