/- My own texts, merged. -/
import Derived.Test.YtplmfmpbkjnbaaaGreatDoorBQ06
import Derived.Test.YtplmfmpbkjnbaaaGreatDoorBQ04
import Derived.Test.YtplmfmpbkjnbaaaGreatDoorBQ05
import Derived.Test.YtplmfmpbkjnbaaaGreatDoorBQ08
import Derived.Test.YtplmfmpbkjnbaaaGreatDoorBQ02
set_option maxRecDepth 100000
set_option maxHeartbeats 1000000
namespace Go.Proofs.YtplmfmpbkjnbaaaGreatDoor
namespace Sha
open Go.RowKit Mem
def Z32:Array Value:=(u8s (List.replicate 32 0)).toArray
theorem zero32 (w:World):(zeroValue 22).run Tryz.prog w=.ok (.agg Z32) w:=by kernel_rfl
theorem info32:(Tryz.prog.info? 22).map (·.size)=some 32:=by kernel_rfl
structure DInv (B Bd:Nat) (l:Lb8) (w wr:World):Prop where
 z:At wr (B+1) Z32 22
 d:At wr Bd (u8s l).toArray 22
 tabs:Tabs wr
 b:Below B w wr
theorem sum_any (s:Fed) (hs:Ok s) (n:Nat) (hn:n % 64=s.at') (w:World) (hN:n≤1152921504606846975) (hL:Tabs w) :
 Calls Tryz.prog 175 #[.agg (stRow s.H s.T n)] w fun e w'=>e=.returned (.agg (u8s (digest s n)).toArray)∧Below w.heap.size w w':=by
 obtain ⟨C,hC⟩:∃ C,C=stRow s.H s.T n:=⟨_,rfl⟩
 obtain ⟨X,hX⟩:∃ X,X=Z32:=⟨_,rfl⟩
 obtain ⟨Z,hZ⟩:∃ Z,Z=Zst:=⟨_,rfl⟩
 obtain ⟨f,hf⟩:∃ f,f=feeds s (padBytes n):=⟨_,rfl⟩
 obtain ⟨E,hE⟩:∃ E,E=stRow f.H f.T (n+(padBytes n).length):=⟨_,rfl⟩
 obtain ⟨FR,hFR⟩:∃ FR,FR=(u32s f.H).toArray:=⟨_,rfl⟩
 have hfo:Ok f:=by rw [hf];exact feeds_ok _ hs
 have hz:=zeroSt
 have hx:=zero32
 rw [←hX] at hx
 rw [←hZ] at hz
 have hpad:=fun wx (ht:Tabs wx)=>pad_any s hs n hn wx hN ht
 rw [←hf,←hE] at hpad
 rw [←hC] at hpad ⊢
 have hsz:C.size=73:=by rw [hC];exact stRow_size hs.h hs.t
 have hEs:E.size=73:=by rw [hE];exact stRow_size hfo.h hfo.t
 have hEo:E.all (·.oneCell')=true:=by rw [hE];exact stRow_one
 have hE2:E.extract 0 (0+8)=FR:=by rw [hE,hFR];exact stRow_H hfo.h
 have hZs:Z.size=73:=by rw [hZ];exact Zst_size
 have aC:At ((w.alloc (.cells C 261)).alloc (.cells X 22)) w.heap.size C 261:=(at_new w C _).alloc _
 have aX:At ((w.alloc (.cells C 261)).alloc (.cells X 22)) (w.heap.size+1) X 22:=by
  have:=at_new (w.alloc (.cells C 261)) X 22
  simpa using this
 have b1:Below w.heap.size w ((w.alloc (.cells C 261)).alloc (.cells X 22)):=((Below.refl _ _).alloc (Nat.le_refl _) _).alloc (by simp) _
 have s1:((w.alloc (.cells C 261)).alloc (.cells X 22)).heap.size=w.heap.size+2:=by simp
 have hcall:=hpad _ (hL.below b1 (Nat.le_refl _))
 have HC:=zh hC;have HX:=zh hX;have HZ:=zh hZ;have HF:=zh hf;have HE:=zh hE;have HFR:=zh hFR;have HFO:=zh hfo;have HSZ:=zh hsz;have HES:=zh hEs;have HEO:=zh hEo;have HE2:=zh hE2;have HZS:=zh hZs;have AC:=zh aC;have AX:=zh aX;have B1:=zh b1;have S1:=zh s1;have HCALL:=zh hcall;have HL:=zh hL
 clear hC hX hZ hf hE hFR hfo hsz hEs hEo hE2 hZs aC aX b1 s1 hcall hL hs hn hpad
 go_enter Tryz.func175,Tryz.ntmps175
 go_wp2_with (first | (refine wpList_load_all zr 261 _ zr w.heap.size zr _ Tryz.underlying261 zr C _ AC.out (by rw [HSZ.out];exact infoSt) ?_) | (go_at_call 193;refine HCALL.out.mono ?_;rintro e w2 ⟨rfl,hb2⟩;have HB2:=zh hb2;clear hb2) | (refine wpList_store_new zr 261 _ _ zr zr E _ _ zr zr (by rw [HES.out];exact infoSt) (by rw [HES.out,HZS.out]) HEO.out ?_) | (refine wpList_load_is zr 258 _ zr w2.heap.size 0 8 zr _ Tryz.underlying258 zr info8 E 261 ((at_new w2 E _).alloc _) (by rw [HES.out];decide) FR HE2.out ?_))
 have hI:DInv w.heap.size (w2.heap.size+1) (List.replicate 32 0) w ((w2.alloc (.cells E 261)).alloc (.cells X 22)):=by
  have hb2:=HB2.out
  rw [S1.out] at hb2
  have hs2:=hb2.size
  rw [S1.out] at hs2
  have bb:Below w.heap.size w w2:=B1.out.trans (hb2.mono (by omega))
  have bb':Below w.heap.size w ((w2.alloc (.cells E 261)).alloc (.cells X 22)):=(bb.alloc (by omega) _).alloc (by simp;omega) _
  refine ⟨?_,?_,HL.out.below bb' (Nat.le_refl _),bb'⟩
  ·rw [←HX.out];exact ((AX.out.below hb2 (by omega)).alloc _).alloc _
  ·have:=at_new (w2.alloc (.cells E 261)) X 22
   have e:(w2.alloc (.cells E 261)).heap.size=w2.heap.size+1:=by simp
   rw [e] at this
   have e2:(u8s (List.replicate 32 0)).toArray=X:=by rw [HX.out];rfl
   rw [e2]
   exact this
 have hBp:w.heap.size+2≤w2.heap.size:=by have:=HB2.out.size;rw [S1.out] at this;exact this
 have HI0:=zh hI
 clear hI HB2 hz hx
 generalize (w2.alloc (.cells E 261)).alloc (.cells X 22)=w3 at *
 generalize w2.heap.size=Bp at *
 clear w2
 obtain ⟨l,hl⟩:∃ l,l=adds f.H IVl:=⟨_,rfl⟩
 have HLL:=zh hl;clear hl
 go_loopw [5,6,11] (fun _ _ i wr=>∃ j:Nat,j≤8∧i=.int .i64 j∧DInv w.heap.size (Bp+1) (dRow l j) w wr) (fun _ _ i _=>8 - (intOf i).toNat)
 case atStart=>exact ⟨0,by omega,rfl,HI0.out⟩
 case round=>
  obtain ⟨j,hj,rfl,hI⟩:=hrel
  by_cases hlt:j < 8
  ·have cg:wr.cell? ⟨0,j,none⟩=some (.int .u32 (V (IVl.getD j 0))):=hI.tabs.f.2 j hlt
   obtain ⟨y,hy⟩:∃ y,y=IVl.getD j 0:=⟨_,rfl⟩
   rw [←hy] at cg
   have hjv:FR[j]?=some (.int .u32 (V (f.H.getD j 0))):=by rw [HFR.out,List.getElem?_toArray];exact u32s_get f.H j (by rw [HFO.out.h];exact hlt)
   obtain ⟨x,hx⟩:∃ x,x=f.H.getD j 0:=⟨_,rfl⟩
   rw [←hx] at hjv
   have hd0:=hI.d
   obtain ⟨R0,hR0⟩:∃ R,R=(u8s (dRow l j)).toArray:=⟨_,rfl⟩
   have hR0s:R0.size=32:=by rw [hR0];simp [u8s,dRow_length]
   rw [←hR0] at hd0
   have i0:4*j < R0.size:=by omega
   have i1:4*j+1 < R0.size:=by omega
   have i2:4*j+2 < R0.size:=by omega
   have i3:4*j+3 < R0.size:=by omega
   have D0:=zh hd0;have HR0:=zh hR0;have I0:=zh i0;have I1:=zh i1;have I2:=zh i2;have I3:=zh i3
   clear hd0 hR0 hR0s i0 i1 i2 i3
   have e0:(V x+V y) % (4294967296:Int) / (16777216:Int)=((wb (x+y) 24).toNat:Int):=by
    rw [r_add,←wb24];have:=V_lo (x+y);have:=V_hi (x+y);omega
   have e1:(V x+V y) % (4294967296:Int) / (65536:Int) % (256:Int)=((wb (x+y) 16).toNat:Int):=by rw [r_add,←wb16]
   have e2:(V x+V y) % (4294967296:Int) / (256:Int) % (256:Int)=((wb (x+y) 8).toNat:Int):=by rw [r_add,←wb8]
   have e3:(V x+V y) % (256:Int)=((wb (x+y) 0).toNat:Int):=by rw [←wb0,←r_add];omega
   have e4:(V x+V y) % (4294967296:Int) % (256:Int)=((wb (x+y) 0).toNat:Int):=by rw [r_add,←wb0]
   have E4:=zh e4;clear e4
   have E0:=zh e0;have E1:=zh e1;have E2:=zh e2;have E3:=zh e3
   clear e0 e1 e2 e3
   have HI:=zh hI;have HYY:=zh hy;have HXX:=zh hx;have HJV:=zh hjv
   clear hI hy hx hjv
   go_wp2_with (first | (refine wpList_index_row zr 258 _ _ zr 8 23 Tryz.underlying258 _ Tryz.underlying23 zr infoW FR j zr zr hlt _ HJV.out ?_) | (refine Mem.wpList_store_one zr 5 _ _ zr zr (Bp+1) (4*j) (.int .u8 ((wb (x+y) 24).toNat:Int)) zr (by exact congrArg (Value.int .u8) E0.out) zr infoB _ _ D0.out (by simpa using I0.out) ?_;intro w4 a4 o4 b4;have D4:=zh a4;have O4:=zh o4;have B4:=zh b4;clear a4 o4 b4) | (refine Mem.wpList_store_one zr 5 _ _ zr zr (Bp+1) (4*j+1) (.int .u8 ((wb (x+y) 16).toNat:Int)) zr (by exact congrArg (Value.int .u8) E1.out) zr infoB _ _ D4.out (by simpa using I1.out) ?_;intro w5 a5 o5 b5;have D5:=zh a5;have O5:=zh o5;have B5:=zh b5;clear a5 o5 b5) | (refine Mem.wpList_store_one zr 5 _ _ zr zr (Bp+1) (4*j+2) (.int .u8 ((wb (x+y) 8).toNat:Int)) zr (by exact congrArg (Value.int .u8) E2.out) zr infoB _ _ D5.out (by simpa using I2.out) ?_;intro w6 a6 o6 b6;have D6:=zh a6;have O6:=zh o6;have B6:=zh b6;clear a6 o6 b6) | (refine Mem.wpList_store_one zr 5 _ _ zr zr (Bp+1) (4*j+3) (.int .u8 ((wb (x+y) 0).toNat:Int)) zr (by first | exact congrArg (Value.int .u8) E3.out | exact congrArg (Value.int .u8) E4.out) zr infoB _ _ D6.out (by simpa using I3.out) ?_;intro w7 a7 o7 b7;have D7:=zh a7;have O7:=zh o7;have B7:=zh b7;clear a7 o7 b7))
   go_roundw
   case rel=>
    refine ⟨j+1,by omega,by go_num,?_⟩
    have hI:=HI.out
    have hd:=D7.out
    have hz:(adds f.H IVl).getD j 0=x+y:=by
     have h1:j < f.H.length:=by rw [HFO.out.h];exact hlt
     have h2:j < IVl.length:=hlt
     rw [HXX.out,HYY.out]
     simp only [adds,List.getD_eq_getElem?_getD,List.getElem?_zipWith,List.getElem?_eq_getElem h1,List.getElem?_eq_getElem h2,Option.getD_some]
    have e:(((R0.setIfInBounds (4*j) (.int .u8 ((wb (x+y) 24).toNat:Int))).setIfInBounds (4*j+1) (.int .u8 ((wb (x+y) 16).toNat:Int))).setIfInBounds (4*j+2) (.int .u8 ((wb (x+y) 8).toNat:Int))).setIfInBounds (4*j+3) (.int .u8 ((wb (x+y) 0).toNat:Int))=(u8s (dRow l (j+1))).toArray:=by
     rw [HR0.out,u8s_set,u8s_set,u8s_set,u8s_set,dRow,HLL.out,hz]
    rw [e] at hd
    have keep:∀ k,k≠Bp+1→w7.heap[k]?=wr.heap[k]?:=fun k hk=>by rw [O7.out k hk,O6.out k hk,O5.out k hk,O4.out k hk]
    have hb:=B7.out _ _ (B6.out _ _ (B5.out _ _ (B4.out _ _ hI.b (by omega)) (by omega)) (by omega)) (by omega)
    have hk0:=HL.out.k.1
    have hf0:=HL.out.f.1
    exact ⟨at_keep hI.z keep (by omega),hd,⟨hI.tabs.k.keep keep (by omega),hI.tabs.f.keep keep (by omega)⟩,hb⟩
   case measure=>simp [intOf];omega
  ·have hj8:j=8:=by omega
   rw [hj8] at hI
   have hge:¬ (j:Int) < 8:=by omega
   have hd:=hI.d
   obtain ⟨G,hG⟩:∃ G,G=(u8s (dRow l 8)).toArray:=⟨_,rfl⟩
   rw [←hG] at hd
   have hGs:G.size=32:=by rw [hG];simp [u8s,dRow_length]
   have hGo:G.all (·.oneCell')=true:=by rw [hG];exact u8s_one _
   have hfin:(u8s (digest s n)).toArray=G:=by rw [hG,digest,←HF.out,HLL.out]
   have HI:=zh hI;have HD:=zh hd;have HGS:=zh hGs;have HGO:=zh hGo;have HFIN:=zh hfin
   clear hI hd hG hGs hGo hfin hj8 hj hlt
   go_wp2_with (first | (refine wpList_load_all zr 22 _ zr (Bp+1) zr _ Tryz.underlying22 zr G _ HD.out (by rw [HGS.out];exact info32) ?_) | (refine wpList_store_all zr 22 _ _ zr zr (w.heap.size+1) G zr zr (by rw [HGS.out];exact info32) _ _ HI.out.z (by rw [HGS.out];simp [Z32,u8s]) HGO.out ?_))
   try simp only [Exit.inBlock,Exit.then]
   refine ret_row zr (w.heap.size+1) 22 G _ zr (HI.out.z.row G) Tryz.underlying22 zr (by rw [HGS.out];exact info32) ?_
   exact ⟨by rw [HFIN.out],below_row HI.out.b (by omega) G⟩
end Sha
end Go.Proofs.YtplmfmpbkjnbaaaGreatDoor
namespace Go.Proofs.YtplmfmpbkjnbaaaGreatDoor
namespace Sha
open Go.RowKit
def atB (i j:Nat):Nat:=i*6 ^ j
def enN (p a i j:Nat):Nat:=min ((i+1)*6 ^ j) (lvn p (a - j))
theorem atB_succ (i j:Nat):atB i (j+1)=atB i j*6:=by unfold atB;rw [Nat.pow_succ,Nat.mul_assoc]
theorem enN_succ (p a i j:Nat) (ha:a≤3) (hj:j+1≤a):enN p a i (j+1)=min (enN p a i j*6) (lvn p (a - (j+1))):=by
 have c:=lvn_cnt p (a - (j+1)) (by omega)
 rw [show a - (j+1)+1=a - j by omega] at c
 have l:=cnt_le (lvn p (a - (j+1)))
 have e:(i+1)*6 ^ (j+1)=(i+1)*6 ^ j*6:=by rw [Nat.pow_succ,Nat.mul_assoc]
 unfold enN
 rw [e,c]
 omega
theorem en_le (p a i j:Nat) (ha:a≤3) (h1:p≤216):enN p a i j≤216:=by
 have:=(stn_le p (a - j) (by omega) h1).2
 unfold enN
 omega
theorem at_lt (p a i:Nat) (ha:a≤3) (hi:i < lvn p a):∀ j,j≤a→atB i j < enN p a i j:=by
 intro j
 induction j with
 | zero=>intro _;unfold atB enN;rw [Nat.pow_zero,Nat.mul_one,Nat.mul_one,Nat.sub_zero];omega
 | succ j ih=>
  intro hj
  have h:=ih (by omega)
  have c:=lvn_cnt p (a - (j+1)) (by omega)
  rw [show a - (j+1)+1=a - j by omega] at c
  have l:=cnt_le (lvn p (a - (j+1)))
  have h2:enN p a i j≤lvn p (a - j):=Nat.min_le_right _ _
  rw [atB_succ,enN_succ p a i j ha hj]
  omega
def bel (s m:Nat) (n:Nat):List Int:=(List.range n).map fun x=>((s+(m+x):Nat):Int)
theorem bel_length (s m n:Nat):(bel s m n).length=n:=by simp [bel]
theorem bel_succ (s m n:Nat):bel s m (n+1)=bel s m n++[((s+(m+n):Nat):Int)]:=by simp [bel,List.range_succ]
def belL (p a i b:Nat):List Int:=bel (stn p b) (atB i (a - b)) (enN p a i (a - b) - atB i (a - b))
theorem bel_kids (p q a:Nat) (_h0:1≤p) (_h1:p≤216) (hp:p≤q) (hq:q < itn p) (ha:lev p q=a+1):belL p (a+1) (q - stn p (a+1)) a=KZ p (q:Int):=by
 rw [KZ_nat p q hq,if_pos hp]
 have h4:=itn_le p
 have hlo:=lev_lo p q
 have hhi:=lev_hi p q (by omega)
 have hl3:=lev_le p q
 rw [ha] at hlo hhi hl3
 have s1:=stn_lvn p a (by omega)
 have e1:fst p q=stn p a+6*(q - stn p (a+1)):=by unfold fst;rw [ha,Nat.add_sub_cancel]
 have e2:many p q=min 6 (stn p (a+1) - fst p q):=by unfold many;rw [ha]
 have hn:enN p (a+1) (q - stn p (a+1)) (a+1 - a) - atB (q - stn p (a+1)) (a+1 - a)=many p q:=by
  rw [show a+1 - a=1 by omega]
  unfold enN atB
  rw [Nat.pow_one,show a+1 - 1=a by omega,e2,e1]
  omega
 unfold belL
 rw [hn]
 unfold bel kz
 refine List.map_congr_left (fun x _=>?_)
 rw [show a+1 - a=1 by omega,e1]
 unfold atB
 rw [Nat.pow_one]
 omega
theorem lev_node' (p q:Nat) (h:p≤q):1≤lev p q:=by
 unfold lev
 rw [if_neg (by omega)]
 split
 ·omega
 ·split <;> omega
end Sha
end Go.Proofs.YtplmfmpbkjnbaaaGreatDoor
namespace Go.Proofs.YtplmfmpbkjnbaaaGreatDoor
namespace Sha
open Go.RowKit Mem
structure St6 where
 n:Nat
 b:Lb8
 w:List (Nat × Lb8)
 sh:List (Lb8)
 t:List Int
def putC:List (Nat × Value)→List Value
 | []=>[]
 | p::l=>.int .i64 (p.1:Int)::p.2::putC l
theorem putC_snoc (p:Nat × Value):∀ l,putC (l++[p])=putC l++[.int .i64 (p.1:Int),p.2]
 | []=>rfl
 | _::l=>by simp [putC,putC_snoc p l]
theorem putC_at:∀ (l:List (Nat × Value)) (i:Nat) (p:Nat × Value),l[i]?=some p→(putC l)[2*i]?=some (.int .i64 (p.1:Int))∧(putC l)[2*i+1]?=some p.2
 | q::l,0,p,h=>by
  have hq:q=p:=by simpa using h
  subst hq
  exact ⟨rfl,rfl⟩
 | q::l,i+1,p,h=>by
  have h':l[i]?=some p:=by simpa using h
  have:=putC_at l i p h'
  simpa [putC,Nat.mul_add] using this
def WPut (G:Foot) (w:World) (v:Value) (l:List (Nat × Lb8)):Prop:=∃ ws:List (Nat × Value),Each2 (fun p q=>p.1=q.1∧SlB G w p.2 q.2) ws l∧SlR G w 2 v l.length (putC ws)
def WSh (G:Foot) (w:World) (v:Value) (l:List (Lb8)):Prop:=∃ hs:List Value,Each2 (fun p q=>SlB G w p q) hs l∧SlR G w 1 v l.length hs
def i64s (l:List Int):List Value:=l.map fun k=>.int .i64 k
def WTr (G:Foot) (w:World) (v:Value) (l:List Int):Prop:=SlR G w 1 v l.length (i64s l)
theorem WPut.keep {G:Foot} {w w':World} {v:Value} {l:List (Nat × Lb8)} (h:WPut G w v l) (hs:w.heap.size≤w'.heap.size) (hk:∀ k,G k→k < w.heap.size→w'.heap[k]?=w.heap[k]?):WPut G w' v l:=by
 obtain ⟨ws,h1,h2⟩:=h
 exact ⟨ws,h1.mono fun _ _ h=>⟨h.1,h.2.keep hs hk⟩,h2.keep hs hk⟩
theorem WPut.mono {G H:Foot} {w:World} {v:Value} {l:List (Nat × Lb8)} (h:WPut G w v l) (hs:∀ k,G k→k < w.heap.size→H k):WPut H w v l:=by
 obtain ⟨ws,h1,h2⟩:=h
 exact ⟨ws,h1.mono fun _ _ h=>⟨h.1,h.2.mono hs⟩,h2.mono hs⟩
theorem WSh.keep {G:Foot} {w w':World} {v:Value} {l:List (Lb8)} (h:WSh G w v l) (hs:w.heap.size≤w'.heap.size) (hk:∀ k,G k→k < w.heap.size→w'.heap[k]?=w.heap[k]?):WSh G w' v l:=by
 obtain ⟨ws,h1,h2⟩:=h
 exact ⟨ws,h1.mono fun _ _ h=>h.keep hs hk,h2.keep hs hk⟩
theorem WSh.mono {G H:Foot} {w:World} {v:Value} {l:List (Lb8)} (h:WSh G w v l) (hs:∀ k,G k→k < w.heap.size→H k):WSh H w v l:=by
 obtain ⟨ws,h1,h2⟩:=h
 exact ⟨ws,h1.mono fun _ _ h=>h.mono hs,h2.mono hs⟩
theorem WPut.hd {G:Foot} {w:World} {v:Value} {l:List (Nat × Lb8)} (h:WPut G w v l):∃ a cap,v=.slice a l.length cap:=by
 obtain ⟨_,_,_,a,cap,e,_⟩:=h;exact ⟨a,cap,e⟩
theorem WSh.hd {G:Foot} {w:World} {v:Value} {l:List (Lb8)} (h:WSh G w v l):∃ a cap,v=.slice a l.length cap:=by
 obtain ⟨_,_,_,a,cap,e,_⟩:=h;exact ⟨a,cap,e⟩
theorem WTr.hd {G:Foot} {w:World} {v:Value} {l:List Int} (h:WTr G w v l):∃ a cap,v=.slice a l.length cap:=by
 obtain ⟨_,a,cap,e,_⟩:=h;exact ⟨a,cap,e⟩
theorem SlB.hd {G:Foot} {w:World} {v:Value} {l:Lb8} (h:SlB G w v l):∃ a cap,v=.slice a l.length cap:=by
 obtain ⟨_,a,cap,e,_⟩:=h;exact ⟨a,cap,e⟩
structure Four (G:Foot) (w:World) (vb vw vs vt:Value) (s:St6):Prop where
 fb:SlB G w vb s.b
 fw:WPut G w vw s.w
 fs:WSh G w vs s.sh
 ft:WTr G w vt s.t
theorem Four.keep {G:Foot} {w w':World} {vb vw vs vt:Value} {s:St6} (h:Four G w vb vw vs vt s) (hs:w.heap.size≤w'.heap.size) (hk:∀ k,G k→k < w.heap.size→w'.heap[k]?=w.heap[k]?):Four G w' vb vw vs vt s:=
 ⟨h.fb.keep hs hk,h.fw.keep hs hk,h.fs.keep hs hk,SlR.keep h.ft hs hk⟩
theorem Four.mono {G H:Foot} {w:World} {vb vw vs vt:Value} {s:St6} (h:Four G w vb vw vs vt s) (hs:∀ k,G k→k < w.heap.size→H k):Four H w vb vw vs vt s:=
 ⟨h.fb.mono hs,h.fw.mono hs,h.fs.mono hs,SlR.mono h.ft hs⟩
structure StEnd (R:Foot→Nat→World→St6→Prop) (F:Foot) (br:Nat) (w:World) (s:St6) (w':World):Prop where
 h:∃ F',R F' br w' s∧∀ k,F' k→F k∨w.heap.size≤k
 c:Chg F w w'
theorem StEnd.trans {R:Foot→Nat→World→St6→Prop} {F F1:Foot} {br:Nat} {w w1 w2:World} {s2:St6} (hc:Chg F w w1) (hx:∀ k,F1 k→F k∨w.heap.size≤k) (k:StEnd R F1 br w1 s2 w2):StEnd R F br w s2 w2:=by
 obtain ⟨F',h1,h2⟩:=k.h
 exact ⟨⟨F',h1,fun k hk=>(h2 k hk).elim (hx k) (fun h=>.inr (Nat.le_trans hc.size h))⟩,hc.trans k.c hx⟩
end Sha
end Go.Proofs.YtplmfmpbkjnbaaaGreatDoor
