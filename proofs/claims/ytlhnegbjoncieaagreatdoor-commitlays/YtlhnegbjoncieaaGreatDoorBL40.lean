/- My own texts, merged. -/
import Derived.Test.YtlhnegbjoncieaaGreatDoorBL36
import Derived.Test.YtlhnegbjoncieaaGreatDoorBL37
import Derived.Test.YtlhnegbjoncieaaGreatDoorBL33
import Derived.Test.YtlhnegbjoncieaaGreatDoorBL16
import Derived.Test.YtlhnegbjoncieaaGreatDoorBL00
import Derived.Test.YtlhnegbjoncieaaGreatDoorBL01
import Derived.Test.YtlhnegbjoncieaaGreatDoorBL05
set_option maxRecDepth 100000
set_option maxHeartbeats 4000000
namespace Go.Proofs.YtlhnegbjoncieaaGreatDoor
namespace Sha
open Go.RowKit Mem
set_option maxRecDepth 100000
theorem elemCh:elemR Tryz.prog 46 55 (.agg #[.int .i64 0,.slice none 0 0]) 2 32:=⟨Tryz.underlying46,by kernel_rfl⟩
theorem buildCh (z:Int) (a2:Option Addr) (l c:Nat) (wx:World):(Instr.build 55 #[(0,.int .i64 z),(1,.slice a2 l c)]).run Tryz.prog wx=.ok (.agg (chRow z (.slice a2 l c))) wx:=by
 unfold chRow
 kernel_rfl
theorem builtCh (z:Int) (a2:Option Addr) (l c:Nat):Tryz.prog.builtSlice 55 1 [(0,.agg (chRow z (.slice a2 l c)))]=some (chRow z (.slice a2 l c)):=by
 unfold chRow
 kernel_rfl
theorem elemChR:elemR Tryz.prog 33 122 (.agg #[.int .i64 0,.slice none 0 0]) 2 32:=⟨Tryz.underlying33,by kernel_rfl⟩
theorem buildChR (z:Int) (a2:Option Addr) (l c:Nat) (wx:World):(Instr.build 122 #[(0,.int .i64 z),(1,.slice a2 l c)]).run Tryz.prog wx=.ok (.agg (chRow z (.slice a2 l c))) wx:=by
 unfold chRow
 kernel_rfl
theorem builtChR (z:Int) (a2:Option Addr) (l c:Nat):Tryz.prog.builtSlice 122 1 [(0,.agg (chRow z (.slice a2 l c)))]=some (chRow z (.slice a2 l c)):=by
 unfold chRow
 kernel_rfl
theorem ch_take {β:Type} (C:List β) (d:β) (j:Nat) (hj:j < C.length):C.take (j+1)=C.take j++[C.getD j d]:=by
 rw [List.take_add_one,List.getElem?_eq_getElem hj,List.getD_eq_getElem?_getD,List.getElem?_eq_getElem hj];rfl
abbrev TB:Foot→World→Value→Lb8→Prop:=fun D w u x=>SlB D w u x
def fullC (C:List ChV):List ChV:=C.map fun c=>(c.1,pageL c.2)
theorem fullC_length (C:List ChV):(fullC C).length=C.length:=by simp [fullC]
theorem fullC_get (C:List ChV) (j:Nat) (hj:j < C.length):(fullC C).getD j zch=((C.getD j zch).1,pageL (C.getD j zch).2):=by
 unfold fullC
 rw [List.getD_eq_getElem?_getD,List.getElem?_map,List.getElem?_eq_getElem hj,List.getD_eq_getElem?_getD,List.getElem?_eq_getElem hj];rfl
def FuEnd (w:World) (C:List ChV) (e:Ending) (w':World):Prop:=∃ v' D ws,e=.returned v'∧OwnL TB w' w.heap.size 122 v' D ws C∧(∀ k,D k→w.heap.size≤k)∧Below w.heap.size w w'
theorem full16_own (C:List ChV) (v:Value) (w:World) (hv:SlCh w v C) (hl:C.length≤1000):Calls Tryz.prog 56 #[v] w (FuEnd w (fullC C)):=by
 obtain ⟨i8,hi8,hz8,hs8,hb8⟩:=info_parts infoU8
 obtain ⟨av,cv,rfl⟩:=hv.hd
 have htk:∀ j,j < C.length→(fullC C).take (j+1)=(fullC C).take j++[((C.getD j zch).1,pageL (C.getD j zch).2)]:=fun j hj=>by
  rw [ch_take (fullC C) zch j (by rw [fullC_length];exact hj),fullC_get C j hj]
 have hall:(fullC C).take C.length=fullC C:=List.take_of_length_le (by rw [fullC_length];exact Nat.le_refl _)
 have htl:∀ j,j≤C.length→((fullC C).take j).length=j:=fun j hj=>by rw [List.length_take,fullC_length];omega
 obtain ⟨FC,hFC⟩:∃ F,F=fullC C:=⟨_,rfl⟩
 rw [←hFC] at htk hall htl ⊢
 obtain ⟨n,hn⟩:∃ n,n=C.length:=⟨_,rfl⟩
 rw [←hn] at hv hl htk hall htl ⊢
 have HV:=zh hv;have TK:=zh htk;have ALL:=zh hall;have TL:=zh htl;have HN:=zh hn
 have I8:=zh hi8;have Z8:=zh hz8;have S8:=zh hs8;have B8':=zh hb8
 clear hv htk hall htl hn hi8 hz8 hs8 hb8 hFC
 go_enter Tryz.func56,Tryz.ntmps56
 go_wp2_with fail
 go_loopw [3,9] (fun vo vi wr=>∃ j:Nat,j≤n∧vi=.int .i64 (j:Int)∧(∃ D ws,OwnL TB wr w.heap.size 122 vo D ws (FC.take j)∧∀ k,D k→w.heap.size≤k)∧Below w.heap.size w wr) (fun _ vi _=>n - (intOf vi).toNat)
 case atStart=>exact ⟨0,by omega,rfl,⟨fun _=>False,[],by rw [List.take_zero];exact ownL_nil _ _ _,fun _ h=>False.elim h⟩,Below.refl _ _⟩
 case round=>
  obtain ⟨j,hj,rfl,⟨D,ws,ho,hdl⟩,hbw⟩:=hrel
  have DL:=zh hdl
  clear hdl
  have OW:=zh ho;have BW:=zh hbw;have VW:=zh (HV.out.below hbw)
  obtain ⟨ao,co,hvo⟩:=rows_hd ho.o
  rw [TL.out j hj] at hvo
  subst hvo
  clear ho hbw
  by_cases hlt:j < n
  ·have hlt':(j:Int) < (n:Int):=by omega
   obtain ⟨b1,o1,u,e1,hlb,cz0,cu0,hsu⟩:=slch_at (i:=j) HV.out HN.out hlt
   subst e1
   have htk:=TK.out j hlt
   obtain ⟨x,hx⟩:∃ x,x=(C.getD j zch).2:=⟨_,rfl⟩
   obtain ⟨z,hz⟩:∃ z,z=(C.getD j zch).1:=⟨_,rfl⟩
   rw [←hx,←hz] at htk
   rw [←hx] at hsu
   obtain ⟨a3,cap3,rfl⟩:=sl_inv hsu
   have SX:=zh hsu
   obtain ⟨m,hm⟩:∃ m,m=x.length:=⟨_,rfl⟩
   rw [←hm] at cu0 SX
   obtain ⟨k,hk⟩:∃ k,k=Nat.min x.length 256:=⟨_,rfl⟩
   have hsp:=splice_page x k hk
   have hk256:k≤256:=by rw [hk];exact Nat.min_le_right _ _
   have pl:=pageL_length x
   obtain ⟨MP,hMP⟩:∃ M,M=(u8s (pageL x)).toArray:=⟨_,rfl⟩
   rw [←hMP] at hsp
   have cz:wr.cell? ⟨b1,o1+j*2,none⟩=some (.int .i64 z):=by rw [hz];exact (cell_keep BW.out hlb).trans cz0
   have cu:wr.cell? ⟨b1,o1+j*2+1,none⟩=some (.slice a3 m cap3):=(cell_keep BW.out hlb).trans cu0
   have hb3:Below wr.heap.size wr (wr.alloc (.cells (chRow z (.slice a3 m cap3)) 122)):=(Below.refl _ _).alloc (Nat.le_refl _) _
   have A3:=zh (at_new wr (chRow z (.slice a3 m cap3)) 122)
   have B3:Hid (Below w.heap.size w (wr.alloc (.cells (chRow z (.slice a3 m cap3)) 122))):=zh (BW.out.alloc BW.out.size _)
   have O3:=zh (OW.out.below elseB hb3)
   have HTK:=zh htk;have SP:=zh hsp;have HK:=zh hk;have HM:=zh hMP;have PL:=zh pl
   clear cz0 cu0 htk hsu hx hz hm hlb hb3 hsp hk pl hMP
   go_upto_region 5 with (refine wpList_store_new zr 122 _ _ zr zr (chRow z (.slice a3 m cap3)) _ _ zr zr (by exact infoChR) zr (chRow_one _ _ _ _) ?_)
   clear cz cu
   obtain ⟨bx,hbx⟩:∃ bx,bx=wr.heap.size:=⟨_,rfl⟩
   rw [←hbx] at A3 ⊢
   clear hbx
   generalize wr.alloc (.cells (chRow z (.slice a3 m cap3)) 122)=w3 at *
   go_upto_region 6 with (refine wpList_make_full _ zr _ _ 31 zr w3.heap.size 5 i8 (.int .u8 0) 1 Tryz.underlying31 I8.out Z8.out S8.out .i64 .i64 256 256 256 zr zr rfl rfl (by rw [B8'.out];omega) (by simp [maxLen]) (Nat.le_refl _) ?_;intro w4 ho4 hg4;have R4:Hid (At w4 w3.heap.size (u8s (List.replicate 256 0)).toArray 5):=zh (by have h:=own_full ho4;rw [made_zeros] at h;exact h);have B4:Hid (Below w3.heap.size w3 w4):=zh ((Below.refl _ _).grown hg4 (Nat.le_refl _) (fun _ h=>by cases h));clear ho4 hg4)
   obtain ⟨g,hg⟩:∃ g,g=w3.heap.size:=⟨_,rfl⟩
   have HG:=zh hg
   have SL4:=zh ((SX.out.below B3.out).below B4.out)
   have A4:=zh (A3.out.below B4.out A3.out.lt)
   rw [←hg] at R4 ⊢
   clear hg
   have c1:w4.cell? ⟨bx,1,none⟩=some (.slice a3 m cap3):=(A4.out.cell 1).trans rfl
   go_upto_region 7 with (refine wpList_copy_sl zr _ _ zr g 0 256 256 (.slice a3 m cap3) x zr zr SL4.out k HK.out _ _ R4.out (by simp [u8s];omega) _ SP.out ?_;intro w5 ha5 hs5 ho5 hbb5;have R5:=zh ha5;have B5:=zh (hbb5 _ _ B4.out (by rw [HG.out];exact Nat.le_refl _));clear ha5 hs5 ho5 hbb5)
   have O5:Hid (SlB (fun k=>w3.heap.size≤k) w5 (.slice (some ⟨g,0,none⟩) 256 256) (pageL x)):=zh (by
    have h:=own_fulls (L:=pageL x) (by rw [←HM.out];exact R5.out) (by rw [HG.out];exact Nat.le_refl w3.heap.size) (by rw [PL.out];decide)
    rw [PL.out] at h
    exact OwnB.slB h)
   clear c1
   have A5:=zh (A3.out.below B5.out A3.out.lt)
   have c0:w5.cell? ⟨bx,0,none⟩=some (.int .i64 z):=(A5.out.cell 0).trans rfl
   have BW5:Hid (Below w.heap.size w w5):=zh (B3.out.trans (B5.out.mono B3.out.size))
   have OL5:=zh (O3.out.below elseB B5.out)
   have Q4:Hid (Below w5.heap.size w5 (w5.alloc (.cells (chRow z (.slice (some ⟨g,0,none⟩) 256 256)) 122))):=zh ((Below.refl _ _).alloc (Nat.le_refl _) _)
   have O4:Hid ((w5.alloc (.cells (chRow z (.slice (some ⟨g,0,none⟩) 256 256)) 122)).ownsRow w.heap.size 122 2 (.slice ao j co) j (chVs ws)):=zh (by have h:=World.ownsRow.alloc OL5.out.o (.cells (chRow z (.slice (some ⟨g,0,none⟩) 256 256)) 122);rw [TL.out j hj] at h;exact h)
   have B4':Hid (w.heap.size≤(w5.alloc (.cells (chRow z (.slice (some ⟨g,0,none⟩) 256 256)) 122)).heap.size):=zh (by have:=BW5.out.size;simp;omega)
   have BLD:=zh (buildChR z);have BT:=zh (builtChR z)
   go_upto_region 8 with (first
    | (refine Mem.wpList_build zr 122 _ #[(0,.int .i64 z),(1,.slice (some ⟨g,0,none⟩) 256 256)] (.agg (chRow z (.slice (some ⟨g,0,none⟩) 256 256))) zr (by first | rfl | simp [Act.eval]) (fun wx=>BLD.out _ _ _ wx) ?_)
    | ((refine Go.Great.wpList_buildSliceTo zr 33 122 1 _ zr _ zr _ zr Tryz.underlying33 (chRow z (.slice (some ⟨g,0,none⟩) 256 256)) (by first | (simp [Act.eval,Act.put];exact BT.out _ _ _) | (go_simp;exact BT.out _ _ _) | (simp only [List.map_toArray,List.map_cons,List.map_nil];exact BT.out _ _ _)) ?_))
    | (at_builtin;go_loud (refine wpList_append_app zr _ _ 33 zr (.slice (some ⟨w5.heap.size,0,none⟩) 1 1) j 1 2 [.int .i64 z,.slice (some ⟨g,0,none⟩) 256 256] (.agg #[.int .i64 0,.slice none 0 0]) 32 elemChR zr (by decide) zr O4.out zr (by exact rdR_new (e:=122) (C:=chRow z (.slice (some ⟨g,0,none⟩) 256 256))) (by simp [Value.oneCell']) (by omega) (by omega) B4'.out ?_);intro v8 w8 ho8 ha8 hb8;have O8:=zh ho8;have A8:=zh ha8;have B8:=zh hb8;clear ho8 ha8 hb8))
   clear c0
   have W3:Hid (w.heap.size≤w3.heap.size):=zh B3.out.size
   have O9:Hid (∃ D ws,OwnL TB w8 w.heap.size 122 v8 D ws (FC.take (j+1))∧∀ k,D k→w.heap.size≤k):=zh (by
    rw [HTK.out]
    refine ⟨_,_,OL5.out.add (G:=fun k=>w3.heap.size≤k∧k < w5.heap.size) elseB (O5.out.mono fun k hk hl=>⟨hk,hl⟩) (fun k hk=>⟨hk.2,fun e=>?_⟩) Q4.out (by exact A8.out) (by rw [TL.out j hj];exact O8.out),fun k hk=>hk.elim (DL.out k) fun h=>Nat.le_trans W3.out h.1⟩
    have:=(World.ownsRow.lt O3.out.o k e).2
    have:=hk.1
    omega)
   have B9:Hid (Below w.heap.size w w8):=zh ((BW5.out.trans (Q4.out.mono BW5.out.size)).trans B8.out)
   go_wp2_with fail
   go_roundw
   case rel=>exact ⟨j+1,by omega,by go_num,O9.out,B9.out⟩
   case measure=>simp [intOf];omega
  ·have hjn:j=n:=by omega
   subst hjn
   have hge:¬ (j:Int) < (j:Int):=by omega
   rw [ALL.out] at OW
   go_wp2_with fail
   go_ret
   exact ⟨_,D,ws,rfl,OW.out,DL.out,BW.out⟩
end Sha
end Go.Proofs.YtlhnegbjoncieaaGreatDoor
namespace Go.Proofs.YtlhnegbjoncieaaGreatDoor
namespace Sha
open Go.RowKit Mem
def pgR (n:Nat) (z:Int):Int:=Int.tmod (Int.tmod z n+n) n
def risN (n:Nat) (C:List ChV) (m:Nat):List ChV:=(List.range m).filterMap fun (p:Nat)=>(C.find? fun c=>pgR n c.1 == (p:Int)).map fun c=>((p:Int),c.2)
def risT (n:Nat) (C:List ChV):List ChV:=risN n (fullC C) n
theorem risN_yes {n:Nat} {C:List ChV} {m j:Nat} (hj:j < C.length) (hn:∀ i,i < j→pgR n (C.getD i zch).1≠(m:Int)) (h:pgR n (C.getD j zch).1=(m:Int)):risN n C (m+1)=risN n C m++[((m:Int),(C.getD j zch).2)]:=by
 have hf:(C.find? fun c=>pgR n c.1 == (m:Int))=some (C.getD j zch):=by
  rw [List.find?_eq_some_iff_getElem]
  refine ⟨by simpa using h,j,hj,by rw [List.getD_eq_getElem?_getD,List.getElem?_eq_getElem hj];rfl,fun i hi=>?_⟩
  have:=hn i hi
  rw [List.getD_eq_getElem?_getD,List.getElem?_eq_getElem (by omega)] at this
  simpa using this
 unfold risN
 rw [List.range_succ,List.filterMap_append]
 simp [hf]
theorem risN_no {n:Nat} {C:List ChV} {m:Nat} (hn:∀ i,i < C.length→pgR n (C.getD i zch).1≠(m:Int)):risN n C (m+1)=risN n C m:=by
 have hf:(C.find? fun c=>pgR n c.1 == (m:Int))=none:=by
  rw [List.find?_eq_none]
  intro c hc
  obtain ⟨i,hi,e⟩:=List.mem_iff_getElem.1 hc
  have:=hn i hi
  rw [List.getD_eq_getElem?_getD,List.getElem?_eq_getElem hi,Option.getD_some,e] at this
  simpa using this
 unfold risN
 rw [List.range_succ,List.filterMap_append]
 simp [hf]
theorem risN_len (n:Nat) (C:List ChV) (m:Nat):(risN n C m).length≤m:=by
 unfold risN
 exact Nat.le_trans (List.length_filterMap_le _ _) (by rw [List.length_range];exact Nat.le_refl _)
theorem tmod_bd (z:Int) (n:Nat) (h0:0 < n):-(n:Int) < Int.tmod z n∧Int.tmod z n < (n:Int):=by
 constructor
 ·have:=Int.lt_tmod_of_pos z (show (0:Int) < n by omega);omega
 ·exact Int.tmod_lt_of_pos z (by omega)
theorem o_remz {P:Program} (t:TypeId) (x y:Operand) (z:Int) (n:Nat) (h0:0 < n) (h1:n≤1000) (w:World):(do eqGuard .rem t x y (.int .i64 z) (.int .i64 (n:Int));binOp .rem 3 (.int .i64 z) (.int .i64 (n:Int)):Sem Value).run P w=.ok (.int .i64 (Int.tmod z n)) w:=by
 have hn:¬ (n:Int)=0:=by omega
 have hz:((n:Int) == 0)=false:=beq_eq_false_iff_ne.mpr hn
 have hb:=tmod_bd z n h0
 have h2:IntKind.i64.wrap (Int.tmod z n)=Int.tmod z n:=i64_id _ (by omega) (by omega)
 go_simp
 omega
end Sha
end Go.Proofs.YtlhnegbjoncieaaGreatDoor
namespace Go.Proofs.YtlhnegbjoncieaaGreatDoor
namespace Sha
open Go.RowKit Mem
set_option maxRecDepth 100000
theorem OwnL.at {β:Type} {T:Foot→World→Value→β→Prop} {w:World} {B n cap:Nat} {t:TypeId} {a:Option Addr} {D:Foot} {ws:List (Int × Value)} {xs:List (Int × β)} (h:OwnL T w B t (.slice a n cap) D ws xs) {i:Nat} {c:Int × β} (hi:xs[i]?=some c):∃ b o u,a=some ⟨b,o,none⟩∧b < w.heap.size∧w.cell? ⟨b,o+i*2,none⟩=some (.int .i64 c.1)∧w.cell? ⟨b,o+i*2+1,none⟩=some u∧T D w u c.2:=by
 obtain ⟨a',cap',e,hc⟩:=h.cells
 obtain ⟨b,o,ea,hlt,hcell⟩:=hc (by intro e0;rw [e0] at hi;cases hi)
 injection e with e1 _ _
 obtain ⟨c0,u,c1,hu⟩:=hcell i c hi
 exact ⟨b,o,u,e1.trans ea,hlt,c0,c1,hu⟩
def RsEnd (w:World) (C:List ChV) (e:Ending) (w':World):Prop:=∃ v' D ws,e=.returned v'∧OwnL TB w' w.heap.size 55 v' D ws C∧(∀ k,D k→w.heap.size≤k)∧Below w.heap.size w w'
theorem rising16_any (C:List ChV) (v:Value) (n:Nat) (w:World) (hv:SlCh w v C) (hl:C.length≤20) (h0:0 < n) (h1:n≤1000):Calls Tryz.prog 13 #[v,.int .i64 (n:Int)] w (RsEnd w (risT n C)):=by
 obtain ⟨av,cv,rfl⟩:=hv.hd
 have fu:=fun wx (h:Below w.heap.size w wx)=>full16_own C (.slice av C.length cv) wx (hv.below h) (by omega)
 have hfl:=fullC_length C
 have rz:=fun (z:Int) t x y wx=>o_remz (P:=Tryz.prog) t x y z n h0 h1 wx
 have hpr:∀ z,pgR n z=Int.tmod (Int.tmod z n+n) n:=fun _=>rfl
 have hbd:=fun z=>tmod_bd z n h0
 have hT:risT n C=risN n (fullC C) n:=rfl
 obtain ⟨FC,hFC⟩:∃ F,F=fullC C:=⟨_,rfl⟩
 rw [←hFC] at fu hfl hT
 have hyes:=fun (m j:Nat) (hj:j < FC.length) a b=>risN_yes (n:=n) (C:=FC) (m:=m) hj a b
 have hno:=fun (m:Nat) a=>risN_no (n:=n) (C:=FC) (m:=m) a
 have hz0:risN n FC 0=[]:=rfl
 have hlen:=risN_len n FC
 obtain ⟨RT,hRT⟩:∃ R,R=risT n C:=⟨_,rfl⟩
 rw [←hRT] at hT ⊢
 obtain ⟨RN,hRN⟩:∃ f,f=risN n FC:=⟨_,rfl⟩
 rw [←hRN] at hT hyes hno hz0 hlen
 obtain ⟨c,hc⟩:∃ c,c=C.length:=⟨_,rfl⟩
 rw [←hc] at fu hfl hl ⊢
 rw [hfl] at hyes hno
 have FU:=zh fu;have RZ:=zh rz;have PR:=zh hpr;have BD:=zh hbd;have HT:=zh hT;have YES:=zh hyes;have NO:=zh hno;have NZ:=zh hz0;have LEN:=zh hlen;have FL:=zh hfl
 clear fu rz hpr hbd hT hyes hno hz0 hlen hfl hv hFC hRT hRN hc
 go_enter Tryz.func13,Tryz.ntmps13
 go_wp2_with fail
 go_loopw [5,10] (fun vo vi wr=>∃ m:Nat,m≤n∧vi=.int .i64 (m:Int)∧(∃ D ws,OwnL TB wr w.heap.size 55 vo D ws (RN m)∧∀ k,D k→w.heap.size≤k)∧Below w.heap.size w wr) (fun _ vi _=>n - (intOf vi).toNat)
 case atStart=>exact ⟨0,by omega,rfl,⟨fun _=>False,[],by rw [NZ.out];exact ownL_nil _ _ _,fun _ h=>False.elim h⟩,Below.refl _ _⟩
 case round=>
  obtain ⟨m,hm,rfl,⟨D,ws,ho,hdl⟩,hbw⟩:=hrel
  have OW:=zh ho;have DL:=zh hdl;have BW:=zh hbw
  obtain ⟨ao,co,hvo⟩:=rows_hd ho.o
  have hml:=LEN.out m
  obtain ⟨q,hq⟩:∃ q,q=(RN m).length:=⟨_,rfl⟩
  rw [←hq] at hvo hml
  subst hvo
  have HQ:=zh hq
  clear ho hdl hbw hq
  by_cases hlt:m < n
  ·have hlt':(m:Int) < (n:Int):=by omega
   go_wp2_with fail
   refine (FU.out _ BW.out).mono ?_
   rintro e wf ⟨vf,Df,wsf,rfl,hof,hdf,hbf⟩
   obtain ⟨af,cf,hvf⟩:=rows_hd hof.o
   rw [FL.out] at hvf
   subst hvf
   have OF:=zh hof;have DF:=zh hdf;have BF:=zh (BW.out.trans (hbf.mono BW.out.size));have O1:=zh (OW.out.below elseB hbf)
   have S0:Hid (wr.heap.size≤wf.heap.size):=zh hbf.size
   have OL:Hid (∀ k,(Value.slice ao q co).ownBlock=some k→k < wr.heap.size):=zh fun k hk=>(World.ownsRow.lt OW.out.o k hk).2
   obtain ⟨sz,hsz⟩:∃ s,s=wr.heap.size:=⟨_,rfl⟩
   rw [←hsz] at DF S0 OL
   have S1:Hid (w.heap.size≤sz):=zh (by rw [hsz];exact BW.out.size)
   clear hof hdf hbf OW BW hsz
   go_wp2_with fail
   go_loopw [5,16] (fun vo vi wr=>∃ j:Nat,j≤c∧vo=.slice ao q co∧vi=.int .i64 (j:Int)∧(∀ i,i < j→pgR n (FC.getD i zch).1≠(m:Int))∧Below wf.heap.size wf wr) (fun _ vi _=>c - (intOf vi).toNat)
   case atStart=>exact ⟨0,by omega,rfl,rfl,fun _ h=>by omega,Below.refl _ _⟩
   case round=>
    obtain ⟨j,hj,rfl,rfl,hal,hbx⟩:=hrel
    have BX:=zh (BF.out.trans (hbx.mono BF.out.size));have O2:=zh (O1.out.below elseB hbx);have S2:Hid (sz≤wr.heap.size):=zh (Nat.le_trans S0.out hbx.size)
    have OF2:=zh (OF.out.below elseB hbx)
    by_cases hjc:j < c
    ·have hjc':(j:Int) < (c:Int):=by omega
     have hg:FC[j]?=some (FC.getD j zch):=by
      rw [List.getD_eq_getElem?_getD,List.getElem?_eq_getElem (by rw [FL.out];exact hjc)];rfl
     obtain ⟨b1,o1,u,e1,hlb,cz,cu,hsu⟩:=OF2.out.at hg
     subst e1
     have yj:=fun h=>YES.out m j hjc hal h
     have hnx:pgR n (FC.getD j zch).1≠(m:Int)→∀ i,i < j+1→pgR n (FC.getD i zch).1≠(m:Int):=fun h i hi=>(Nat.lt_or_ge i j).elim (hal i) (fun g=>by rw [show i=j by omega];exact h)
     obtain ⟨x,hx⟩:∃ x,x=(FC.getD j zch).2:=⟨_,rfl⟩
     obtain ⟨z,hz⟩:∃ z,z=(FC.getD j zch).1:=⟨_,rfl⟩
     rw [←hx] at hsu yj
     rw [←hz] at cz yj hnx
     have hsu:SlB Df wr u x:=hsu
     obtain ⟨a3,c3,e3⟩:=hsu.hd
     subst e3
     obtain ⟨l,hl3⟩:∃ l,l=x.length:=⟨_,rfl⟩
     rw [←hl3] at cu hsu
     have hb3:Below wr.heap.size wr (wr.alloc (.cells (chRow z (.slice a3 l c3)) 122)):=(Below.refl _ _).alloc (Nat.le_refl _) _
     have SB:=zh (hsu.keep hb3.size fun k _ hk=>hb3.block k hk)
     have DFL:Hid (∀ k,Df k→k < wr.heap.size):=zh fun k hk=>(OF2.out.d k hk).1
     have A3:=zh (at_new wr (chRow z (.slice a3 l c3)) 122)
     have B3:Hid (Below w.heap.size w (wr.alloc (.cells (chRow z (.slice a3 l c3)) 122))):=zh (BX.out.alloc BX.out.size _)
     have O3:=zh (O2.out.below elseB hb3)
     have X3:Hid (Below wf.heap.size wf (wr.alloc (.cells (chRow z (.slice a3 l c3)) 122))):=zh (hbx.alloc hbx.size _)
     have DF3:Hid (∀ k,Df k→k < (wr.alloc (.cells (chRow z (.slice a3 l c3)) 122)).heap.size):=zh fun k hk=>by have:=DFL.out k hk;simp;omega
     have YJ:=zh yj;have NX:=zh hnx
     clear yj hnx hsu hx hz hl3 hlb hb3 hg hal hbx OF2 O2 BX
     go_upto_region 8 with (refine wpList_store_new zr 122 _ _ zr zr (chRow z (.slice a3 l c3)) _ _ zr zr (by exact infoChR) zr (chRow_one _ _ _ _) ?_)
     clear cz cu
     obtain ⟨bx,hbx⟩:∃ bx,bx=wr.heap.size:=⟨_,rfl⟩
     rw [←hbx] at A3 ⊢
     clear hbx
     generalize wr.alloc (.cells (chRow z (.slice a3 l c3)) 122)=w3 at *
     have c0:w3.cell? ⟨bx,0,none⟩=some (.int .i64 z):=(A3.out.cell 0).trans rfl
     have c1:w3.cell? ⟨bx,1,none⟩=some (.slice a3 l c3):=(A3.out.cell 1).trans rfl
     have hj20:(j:Int) < 20:=by omega
     have hb1:=BD.out z
     obtain ⟨r1,hr1⟩:∃ r,r=Int.tmod z n:=⟨_,rfl⟩
     rw [←hr1] at hb1
     have PZ:=zh (PR.out z)
     rw [←hr1] at PZ
     have R1:Hid (∀ t x y wx,(do eqGuard .rem t x y (.int .i64 z) (.int .i64 (n:Int));binOp .rem 3 (.int .i64 z) (.int .i64 (n:Int)):Sem Value).run Tryz.prog wx=.ok (.int .i64 r1) wx):=zh fun t x y wx=>by rw [hr1];exact RZ.out z t x y wx
     have R2:Hid (∀ t x y wx,(do eqGuard .rem t x y (.int .i64 (r1+n)) (.int .i64 (n:Int));binOp .rem 3 (.int .i64 (r1+n)) (.int .i64 (n:Int)):Sem Value).run Tryz.prog wx=.ok (.int .i64 (pgR n z)) wx):=zh fun t x y wx=>by rw [PZ.out];exact RZ.out _ t x y wx
     have AD:Hid (∀ t x y wx,(do eqGuard .add t x y (.int .i64 r1) (.int .i64 (n:Int));binOp .add 3 (.int .i64 r1) (.int .i64 (n:Int)):Sem Value).run Tryz.prog wx=.ok (.int .i64 (r1+n)) wx):=zh fun t x y wx=>o_iadd t 3 x y r1 n (r1+n) rfl (by omega) (by omega) wx
     clear hr1 hb1 PZ
     obtain ⟨P,hP⟩:∃ P,P=pgR n z:=⟨_,rfl⟩
     rw [←hP] at R2 YJ NX
     clear hP
     by_cases hz:P=(m:Int)
     ·have YQ:=zh (YJ.out hz)
      have hz2:(P == (m:Int))=true:=by simpa using hz
      have BLD:=zh (buildCh (m:Int));have BT:=zh (builtCh (m:Int))
      have Q4:Hid (Below w3.heap.size w3 (w3.alloc (.cells (chRow (m:Int) (.slice a3 l c3)) 55))):=zh ((Below.refl _ _).alloc (Nat.le_refl _) _)
      have O4:Hid ((w3.alloc (.cells (chRow (m:Int) (.slice a3 l c3)) 55)).ownsRow w.heap.size 55 2 (.slice ao q co) q (chVs ws)):=zh (by have h:=World.ownsRow.alloc O3.out.o (.cells (chRow (m:Int) (.slice a3 l c3)) 55);rw [←HQ.out] at h;exact h)
      have B4:Hid (w.heap.size≤(w3.alloc (.cells (chRow (m:Int) (.slice a3 l c3)) 55)).heap.size):=zh (by have:=B3.out.size;simp;omega)
      clear hz YJ NX
      go_upto_region 10 with (first
       | (refine wpList_bin zr .rem 3 3 _ _ (.int .i64 z) (.int .i64 (n:Int)) (.int .i64 r1) zr zr zr (fun wx=>R1.out _ _ _ wx) ?_)
       | (refine wpList_bin zr .add 3 3 _ _ (.int .i64 r1) (.int .i64 (n:Int)) (.int .i64 (r1+n)) zr zr zr (fun wx=>AD.out _ _ _ wx) ?_)
       | (refine wpList_bin zr .rem 3 3 _ _ (.int .i64 (r1+n)) (.int .i64 (n:Int)) (.int .i64 P) zr zr zr (fun wx=>R2.out _ _ _ wx) ?_)
       | (refine Mem.wpList_build zr 55 _ #[(0,.int .i64 (m:Int)),(1,.slice a3 l c3)] (.agg (chRow (m:Int) (.slice a3 l c3))) zr (by first | rfl | simp [Act.eval]) (fun wx=>BLD.out _ _ _ wx) ?_)
       | ((refine Go.Great.wpList_buildSliceTo zr 46 55 1 _ zr _ zr _ zr Tryz.underlying46 (chRow (m:Int) (.slice a3 l c3)) (by first | (simp [Act.eval,Act.put];exact BT.out _ _ _) | (go_simp;exact BT.out _ _ _) | (simp only [List.map_toArray,List.map_cons,List.map_nil];exact BT.out _ _ _)) ?_))
       | (at_builtin;go_loud (refine wpList_append_app zr _ _ 46 zr (.slice (some ⟨w3.heap.size,0,none⟩) 1 1) q 1 2 [.int .i64 (m:Int),.slice a3 l c3] (.agg #[.int .i64 0,.slice none 0 0]) 32 elemCh zr (by decide) zr O4.out zr (by exact rdR_new (e:=55) (C:=chRow (m:Int) (.slice a3 l c3))) (by simp [Value.oneCell']) (by omega) (by omega) B4.out ?_);intro v8 w8 ho8 ha8 hb8;have O8:=zh ho8;have A8:=zh ha8;have B8:=zh hb8;clear ho8 ha8 hb8))
      have O9:Hid (∃ D ws,OwnL TB w8 w.heap.size 55 v8 D ws (RN (m+1))∧∀ k,D k→w.heap.size≤k):=zh (by
       rw [YQ.out]
       refine ⟨_,_,O3.out.add (G:=Df) elseB SB.out (fun k hk=>⟨DF3.out k hk,fun e=>?_⟩) Q4.out (by exact A8.out) (by rw [←HQ.out];exact O8.out),fun k hk=>hk.elim (DL.out k) fun h=>Nat.le_trans S1.out (DF.out k h)⟩
       have:=OL.out k e
       have:=DF.out k hk
       omega)
      have B9:Hid (Below w.heap.size w w8):=zh ((B3.out.trans (Q4.out.mono B3.out.size)).trans B8.out)
      go_roundw
      case rel=>exact ⟨m+1,by omega,by go_num,O9.out,B9.out⟩
      case measure=>simp [intOf];omega
     ·have NQ:=zh (NX.out hz)
      have hz2:(P == (m:Int))=false:=by simpa using hz
      clear hz YJ NX
      go_wp2_with (first
       | (refine wpList_bin zr .rem 3 3 _ _ (.int .i64 z) (.int .i64 (n:Int)) (.int .i64 r1) zr zr zr (fun wx=>R1.out _ _ _ wx) ?_)
       | (refine wpList_bin zr .add 3 3 _ _ (.int .i64 r1) (.int .i64 (n:Int)) (.int .i64 (r1+n)) zr zr zr (fun wx=>AD.out _ _ _ wx) ?_)
       | (refine wpList_bin zr .rem 3 3 _ _ (.int .i64 (r1+n)) (.int .i64 (n:Int)) (.int .i64 P) zr zr zr (fun wx=>R2.out _ _ _ wx) ?_))
      go_roundw
      case rel=>exact ⟨j+1,by omega,rfl,by go_num,NQ.out,X3.out⟩
      case measure=>simp [intOf];omega
    ·have hjn:j=c:=by omega
     subst hjn
     have hge:¬ (j:Int) < (j:Int):=by omega
     have O9:Hid (∃ D ws,OwnL TB wr w.heap.size 55 (.slice ao q co) D ws (RN (m+1))∧∀ k,D k→w.heap.size≤k):=zh ⟨D,ws,by rw [NO.out m hal];exact O2.out,DL.out⟩
     clear hal hbx
     go_wp2_with fail
     go_roundw
     case rel=>exact ⟨m+1,by omega,by go_num,O9.out,BX.out⟩
     case measure=>simp [intOf];omega
  ·have hge:¬ (m:Int) < (n:Int):=by omega
   have hmn:m=n:=by omega
   subst hmn
   rw [←HT.out] at OW
   go_wp2_with fail
   go_ret
   exact ⟨_,D,ws,rfl,OW.out,DL.out,BW.out⟩
end Sha
end Go.Proofs.YtlhnegbjoncieaaGreatDoor
