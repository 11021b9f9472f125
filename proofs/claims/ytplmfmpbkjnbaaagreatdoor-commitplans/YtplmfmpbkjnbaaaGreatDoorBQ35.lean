/- My own texts, merged. -/
import Derived.Test.YtplmfmpbkjnbaaaGreatDoorBQ33
import Derived.Test.YtplmfmpbkjnbaaaGreatDoorBQ32
import Derived.Test.YtplmfmpbkjnbaaaGreatDoorBQ07
import Derived.Test.YtplmfmpbkjnbaaaGreatDoorBQ08
import Derived.Test.YtplmfmpbkjnbaaaGreatDoorBQ02
import Derived.Great.Walk
import Derived.OwnWalk
import Derived.Deep.DeepCutAuto
import Derived.Test.YtplmfmpbkjnbaaaGreatDoorBQ13
set_option maxRecDepth 100000
set_option maxHeartbeats 2000000
namespace Go.Proofs.YtplmfmpbkjnbaaaGreatDoor
namespace Sha
open Go.RowKit Mem
set_option maxRecDepth 100000
theorem infoNdR:(Tryz.prog.info? 124).map (·.size)=some 2:=by kernel_rfl
theorem infoChR:(Tryz.prog.info? 125).map (·.size)=some 2:=by kernel_rfl
def farC (N:List NdV) (C:List ChV):Bool:=decide (60 < N.length) || (decide (20 < C.length) || (N.any (fun n=>decide (20 < n.2.length)) || C.any (fun c=>decide (600 < c.2.length))))
theorem farC_no {N:List NdV} {C:List ChV} (h:farC N C=false):N.length≤60∧C.length≤20∧(∀ n∈N,n.2.length≤20)∧∀ c∈C,c.2.length≤600:=by
 unfold farC at h
 rw [Bool.or_eq_false_iff,Bool.or_eq_false_iff,Bool.or_eq_false_iff,decide_eq_false_iff_not,decide_eq_false_iff_not,List.any_eq_false,List.any_eq_false] at h
 obtain ⟨a,b,c,d⟩:=h
 exact ⟨by omega,by omega,fun n hn=>by have:=c n hn;simp at this;exact this,fun n hn=>by have:=d n hn;simp at this;exact this⟩
theorem getD_nd {N:List NdV} {j:Nat} (hj:j < N.length):N.getD j znd∈N:=by
 rw [List.getD_eq_getElem?_getD,List.getElem?_eq_getElem hj];exact List.getElem_mem hj
theorem getD_ch {C:List ChV} {j:Nat} (hj:j < C.length):C.getD j zch∈C:=by
 rw [List.getD_eq_getElem?_getD,List.getElem?_eq_getElem hj];exact List.getElem_mem hj
theorem far16_any (N:List NdV) (C:List ChV) (vn vc:Value) (w:World) (hn:SlNd w vn N) (hc:SlCh w vc C):Calls Tryz.prog 10 #[vn,vc] w (VEnd (.bool (farC N C)) w):=by
 have f1:60 < N.length→farC N C=true:=fun h=>by unfold farC;rw [decide_eq_true h,Bool.true_or]
 have f2:20 < C.length→farC N C=true:=fun h=>by unfold farC;rw [decide_eq_true h,Bool.true_or,Bool.or_true]
 have f3:∀ j,j < N.length→20 < (N.getD j znd).2.length→farC N C=true:=fun j hj h=>by
  have:N.any (fun n=>decide (20 < n.2.length))=true:=List.any_eq_true.2 ⟨_,getD_nd hj,by simpa using h⟩
  unfold farC;rw [this,Bool.true_or,Bool.or_true,Bool.or_true]
 have f4:∀ j,j < C.length→600 < (C.getD j zch).2.length→farC N C=true:=fun j hj h=>by
  have:C.any (fun n=>decide (600 < n.2.length))=true:=List.any_eq_true.2 ⟨_,getD_ch hj,by simpa using h⟩
  unfold farC;rw [this,Bool.or_true,Bool.or_true,Bool.or_true]
 have f5:N.length≤60→C.length≤20→(∀ j,j < N.length→(N.getD j znd).2.length≤20)→(∀ j,j < C.length→(C.getD j zch).2.length≤600)→farC N C=false:=fun a b c d=>by
  unfold farC
  have h3:N.any (fun n=>decide (20 < n.2.length))=false:=List.any_eq_false.2 fun n hn=>by
   obtain ⟨j,hj,e⟩:=List.mem_iff_getElem.1 hn
   have:=c j hj
   rw [List.getD_eq_getElem?_getD,List.getElem?_eq_getElem hj,Option.getD_some,e] at this
   simp;exact this
  have h4:C.any (fun n=>decide (600 < n.2.length))=false:=List.any_eq_false.2 fun n hn=>by
   obtain ⟨j,hj,e⟩:=List.mem_iff_getElem.1 hn
   have:=d j hj
   rw [List.getD_eq_getElem?_getD,List.getElem?_eq_getElem hj,Option.getD_some,e] at this
   simp;exact this
  rw [decide_eq_false (by omega),decide_eq_false (by omega),h3,h4];rfl
 obtain ⟨Y,hY⟩:∃ Y,Y=farC N C:=⟨_,rfl⟩
 rw [←hY] at f1 f2 f3 f4 f5 ⊢
 obtain ⟨an,cn,rfl⟩:=hn.hd
 obtain ⟨ac,cc,rfl⟩:=hc.hd
 obtain ⟨n,hnn⟩:∃ n,n=N.length:=⟨_,rfl⟩
 obtain ⟨m,hmm⟩:∃ m,m=C.length:=⟨_,rfl⟩
 rw [←hnn] at hn f1 f3 f5 ⊢
 rw [←hmm] at hc f2 f4 f5 ⊢
 have HN:=zh hn;have HC:=zh hc;have F1:=zh f1;have F2:=zh f2;have F3:=zh f3;have F4:=zh f4;have F5:=zh f5;have NN:=zh hnn;have MM:=zh hmm
 clear hn hc f1 f2 f3 f4 f5 hnn hmm hY
 by_cases g1:60 < n
 ·have HY:=zh (F1.out g1)
  have g2:(60:Int) < (n:Int):=by omega
  go_enter Tryz.func10,Tryz.ntmps10
  go_wp2_with fail
  go_ret
  exact ⟨by rw [HY.out];rfl,Below.refl _ _⟩
 ·have g1':¬ (60:Int) < (n:Int):=by omega
  by_cases g3:20 < m
  ·have HY:=zh (F2.out g3)
   have g4:(20:Int) < (m:Int):=by omega
   go_enter Tryz.func10,Tryz.ntmps10
   go_wp2_with fail
   go_ret
   exact ⟨by rw [HY.out];rfl,Below.refl _ _⟩
  ·have g3':¬ (20:Int) < (m:Int):=by omega
   go_enter Tryz.func10,Tryz.ntmps10
   go_wp2_with fail
   go_loopw [19] (fun vi wr=>∃ j:Nat,j≤n∧vi=.int .i64 (j:Int)∧(∀ i,i < j→(N.getD i znd).2.length≤20)∧Below w.heap.size w wr) (fun vi _=>n - (intOf vi).toNat)
   case atStart=>exact ⟨0,by omega,rfl,fun i hi=>by omega,Below.refl _ _⟩
   case round=>
    obtain ⟨j,hj,rfl,hal,hbw⟩:=hrel
    have BW:=zh hbw;have AL:=zh hal;have VW:=zh (HN.out.below hbw)
    clear hal hbw
    by_cases hlt:j < n
    ·have hlt':(j:Int) < (n:Int):=by omega
     obtain ⟨b1,o1,u,e1,hlb,cz0,cu0,hsu⟩:=slnd_at (i:=j) VW.out NN.out hlt
     subst e1
     have f3:=F3.out j hlt
     have hal2:(N.getD j znd).2.length≤20→∀ i,i < j+1→(N.getD i znd).2.length≤20:=fun h i hi=>(Nat.lt_or_ge i j).elim (AL.out i) (fun g=>by rw [show i=j by omega];exact h)
     obtain ⟨x,hx⟩:∃ x,x=(N.getD j znd).2:=⟨_,rfl⟩
     obtain ⟨y,hy⟩:∃ y,y=(N.getD j znd).1:=⟨_,rfl⟩
     rw [←hx] at hsu f3 hal2
     obtain ⟨a3,cap3,e3⟩:=hsu.hd
     subst e3
     obtain ⟨l,hl⟩:∃ l,l=x.length:=⟨_,rfl⟩
     rw [←hl] at cu0 f3 hal2
     have cz:wr.cell? ⟨b1,o1+j*2,none⟩=some (.int .i64 y):=by rw [hy];exact cz0
     have cu:wr.cell? ⟨b1,o1+j*2+1,none⟩=some (.slice a3 l cap3):=cu0
     have A3:=zh (at_new wr (ndRow y (.slice a3 l cap3)) 124)
     have B3:Hid (Below w.heap.size w (wr.alloc (.cells (ndRow y (.slice a3 l cap3)) 124))):=zh (BW.out.alloc BW.out.size _)
     have F3J:=zh f3;have AL2:=zh hal2
     clear cz0 cu0 f3 hal2 hsu hx hy hl hlb
     go_upto_region 6 with (refine wpList_store_new zr 124 _ _ zr zr (ndRow y (.slice a3 l cap3)) _ _ zr zr (by exact infoNdR) zr (ndRow_one _ _ _ _) ?_)
     clear cz cu
     obtain ⟨bx,hbx⟩:∃ bx,bx=wr.heap.size:=⟨_,rfl⟩
     rw [←hbx] at A3 ⊢
     clear hbx
     generalize wr.alloc (.cells (ndRow y (.slice a3 l cap3)) 124)=w3 at *
     have c1:w3.cell? ⟨bx,1,none⟩=some (.slice a3 l cap3):=(A3.out.cell 1).trans rfl
     by_cases g:20 < l
     ·have HY:=zh (F3J.out g)
      have g5:(20:Int) < (l:Int):=by omega
      go_wp2_with fail
      go_ret
      exact ⟨by rw [HY.out];rfl,B3.out⟩
     ·have AL3:=zh (AL2.out (by omega))
      have g5:¬ (20:Int) < (l:Int):=by omega
      go_wp2_with fail
      go_roundw
      case rel=>exact ⟨j+1,by omega,by go_num,AL3.out,B3.out⟩
      case measure=>simp [intOf];omega
    ·have hjn:j=n:=by omega
     subst hjn
     have hge:¬ (j:Int) < (j:Int):=by omega
     go_upto_region 10 with fail
     go_loopw [30] (fun vi wx=>∃ i:Nat,i≤m∧vi=.int .i64 (i:Int)∧(∀ k,k < i→(C.getD k zch).2.length≤600)∧Below w.heap.size w wx) (fun vi _=>m - (intOf vi).toNat)
     case atStart=>exact ⟨0,by omega,rfl,fun i hi=>by omega,BW.out⟩
     case round=>
      obtain ⟨i,hi,rfl,hal,hbw⟩:=hrel
      have BX:=zh hbw;have ALX:=zh hal;have VX:=zh (HC.out.below hbw)
      clear hal hbw
      by_cases hlt:i < m
      ·have hlt':(i:Int) < (m:Int):=by omega
       obtain ⟨b1,o1,u,e1,hlb,cz0,cu0,hsu⟩:=slch_at (i:=i) VX.out MM.out hlt
       subst e1
       have f4:=F4.out i hlt
       have hal2:(C.getD i zch).2.length≤600→∀ k,k < i+1→(C.getD k zch).2.length≤600:=fun h k hk=>(Nat.lt_or_ge k i).elim (ALX.out k) (fun g=>by rw [show k=i by omega];exact h)
       obtain ⟨x,hx⟩:∃ x,x=(C.getD i zch).2:=⟨_,rfl⟩
       obtain ⟨y,hy⟩:∃ y,y=(C.getD i zch).1:=⟨_,rfl⟩
       rw [←hx] at hsu f4 hal2
       obtain ⟨a3,cap3,e3⟩:=sl_inv hsu
       subst e3
       obtain ⟨l,hl⟩:∃ l,l=x.length:=⟨_,rfl⟩
       rw [←hl] at cu0 f4 hal2
       have cz:wr.cell? ⟨b1,o1+i*2,none⟩=some (.int .i64 y):=by rw [hy];exact cz0
       have cu:wr.cell? ⟨b1,o1+i*2+1,none⟩=some (.slice a3 l cap3):=cu0
       have A3:=zh (at_new wr (chRow y (.slice a3 l cap3)) 125)
       have B3:Hid (Below w.heap.size w (wr.alloc (.cells (chRow y (.slice a3 l cap3)) 125))):=zh (BX.out.alloc BX.out.size _)
       have F4J:=zh f4;have AL2:=zh hal2
       clear cz0 cu0 f4 hal2 hsu hx hy hl hlb
       go_upto_region 12 with (refine wpList_store_new zr 125 _ _ zr zr (chRow y (.slice a3 l cap3)) _ _ zr zr (by exact infoChR) zr (chRow_one _ _ _ _) ?_)
       clear cz cu
       obtain ⟨bx,hbx⟩:∃ bx,bx=wr.heap.size:=⟨_,rfl⟩
       rw [←hbx] at A3 ⊢
       clear hbx
       generalize wr.alloc (.cells (chRow y (.slice a3 l cap3)) 125)=w3 at *
       have c1:w3.cell? ⟨bx,1,none⟩=some (.slice a3 l cap3):=(A3.out.cell 1).trans rfl
       by_cases g:600 < l
       ·have HY:=zh (F4J.out g)
        have g5:(600:Int) < (l:Int):=by omega
        go_wp2_with fail
        go_ret
        exact ⟨by rw [HY.out];rfl,B3.out⟩
       ·have AL3:=zh (AL2.out (by omega))
        have g5:¬ (600:Int) < (l:Int):=by omega
        go_wp2_with fail
        go_roundw
        case rel=>exact ⟨i+1,by omega,by go_num,AL3.out,B3.out⟩
        case measure=>simp [intOf];omega
      ·have hin:i=m:=by omega
       subst hin
       have hge2:¬ (i:Int) < (i:Int):=by omega
       have HY:=zh (F5.out (by omega) (by omega) AL.out ALX.out)
       go_wp2_with fail
       go_ret
       exact ⟨by rw [HY.out];rfl,BX.out⟩
theorem elemCh:elemR Tryz.prog 50 76 (.agg #[.int .i64 0,.slice none 0 0]) 2 32:=⟨Tryz.underlying50,by kernel_rfl⟩
theorem buildCh (z:Int) (a2:Option Addr) (l c:Nat) (wx:World):(Instr.build 76 #[(0,.int .i64 z),(1,.slice a2 l c)]).run Tryz.prog wx=.ok (.agg (chRow z (.slice a2 l c))) wx:=by
 unfold chRow
 kernel_rfl
theorem builtCh (z:Int) (a2:Option Addr) (l c:Nat):Tryz.prog.builtSlice 76 1 [(0,.agg (chRow z (.slice a2 l c)))]=some (chRow z (.slice a2 l c)):=by
 unfold chRow
 kernel_rfl
theorem elemChR:elemR Tryz.prog 29 125 (.agg #[.int .i64 0,.slice none 0 0]) 2 32:=⟨Tryz.underlying29,by kernel_rfl⟩
theorem buildChR (z:Int) (a2:Option Addr) (l c:Nat) (wx:World):(Instr.build 125 #[(0,.int .i64 z),(1,.slice a2 l c)]).run Tryz.prog wx=.ok (.agg (chRow z (.slice a2 l c))) wx:=by
 unfold chRow
 kernel_rfl
theorem builtChR (z:Int) (a2:Option Addr) (l c:Nat):Tryz.prog.builtSlice 125 1 [(0,.agg (chRow z (.slice a2 l c)))]=some (chRow z (.slice a2 l c)):=by
 unfold chRow
 kernel_rfl
theorem ch_take {β:Type} (C:List β) (d:β) (j:Nat) (hj:j < C.length):C.take (j+1)=C.take j++[C.getD j d]:=by
 rw [List.take_add_one,List.getElem?_eq_getElem hj,List.getD_eq_getElem?_getD,List.getElem?_eq_getElem hj];rfl
abbrev TB:Foot→World→Value→Lb8→Prop:=fun D w u x=>SlB D w u x
theorem changed16_any (C:List ChV) (v:Value) (w:World) (hv:SlCh w v C) (hl:C.length≤1000):Calls Tryz.prog 15 #[v] w fun e w'=>∃ v',e=.returned v'∧SlCh w' v' C∧Below w.heap.size w w':=by
 obtain ⟨av,cv,rfl⟩:=hv.hd
 have htk:=fun j hj=>ch_take C zch j hj
 have hall:C.take C.length=C:=List.take_length
 have htl:∀ j,j≤C.length→(C.take j).length=j:=fun j hj=>by rw [List.length_take];omega
 obtain ⟨n,hn⟩:∃ n,n=C.length:=⟨_,rfl⟩
 rw [←hn] at hv hl htk hall htl ⊢
 have HV:=zh hv;have TK:=zh htk;have ALL:=zh hall;have TL:=zh htl;have HN:=zh hn
 clear hv htk hall htl hn
 go_enter Tryz.func15,Tryz.ntmps15
 go_wp2_with fail
 go_loopw [3,8] (fun vo vi wr=>∃ j:Nat,j≤n∧vi=.int .i64 (j:Int)∧(∃ D ws,OwnL TB wr w.heap.size 76 vo D ws (C.take j))∧Below w.heap.size w wr) (fun _ vi _=>n - (intOf vi).toNat)
 case atStart=>exact ⟨0,by omega,rfl,⟨_,_,by rw [List.take_zero];exact ownL_nil _ _ _⟩,Below.refl _ _⟩
 case round=>
  obtain ⟨j,hj,rfl,⟨D,ws,ho⟩,hbw⟩:=hrel
  have OW:=zh ho;have BW:=zh hbw;have VW:=zh (HV.out.below hbw)
  obtain ⟨ao,co,hvo⟩:=rows_hd ho.o
  rw [TL.out j hj] at hvo
  subst hvo
  clear ho hbw
  by_cases hlt:j < n
  ·have hlt':(j:Int) < (n:Int):=by omega
   obtain ⟨b1,o1,u,e1,hlb,cz0,cu0,hsu⟩:=slch_at (i:=j) HV.out HN.out hlt
   subst e1
   have htk:=TK.out j hlt
   have hc:C.getD j zch=((C.getD j zch).1,(C.getD j zch).2):=rfl
   obtain ⟨x,hx⟩:∃ x,x=(C.getD j zch).2:=⟨_,rfl⟩
   obtain ⟨z,hz⟩:∃ z,z=(C.getD j zch).1:=⟨_,rfl⟩
   rw [hc,←hx,←hz] at htk
   rw [←hx] at hsu
   obtain ⟨a3,cap3,rfl⟩:=sl_inv hsu
   have SB:=zh (hsu.slB)
   obtain ⟨m,hm⟩:∃ m,m=x.length:=⟨_,rfl⟩
   rw [←hm] at cu0 SB
   have cz:wr.cell? ⟨b1,o1+j*2,none⟩=some (.int .i64 z):=by rw [hz];exact (cell_keep BW.out hlb).trans cz0
   have cu:wr.cell? ⟨b1,o1+j*2+1,none⟩=some (.slice a3 m cap3):=(cell_keep BW.out hlb).trans cu0
   have hb3:Below wr.heap.size wr (wr.alloc (.cells (chRow z (.slice a3 m cap3)) 125)):=(Below.refl _ _).alloc (Nat.le_refl _) _
   have A3:=zh (at_new wr (chRow z (.slice a3 m cap3)) 125)
   have B3:Hid (Below w.heap.size w (wr.alloc (.cells (chRow z (.slice a3 m cap3)) 125))):=zh (BW.out.alloc BW.out.size _)
   have O3:=zh (OW.out.below elseB hb3)
   have HTK:=zh htk
   clear cz0 cu0 htk hsu hx hz hm hlb hb3 hc
   go_upto_region 5 with (refine wpList_store_new zr 125 _ _ zr zr (chRow z (.slice a3 m cap3)) _ _ zr zr (by exact infoChR) zr (chRow_one _ _ _ _) ?_)
   clear cz cu
   obtain ⟨bx,hbx⟩:∃ bx,bx=wr.heap.size:=⟨_,rfl⟩
   rw [←hbx] at A3 ⊢
   clear hbx
   generalize wr.alloc (.cells (chRow z (.slice a3 m cap3)) 125)=w3 at *
   have c0:w3.cell? ⟨bx,0,none⟩=some (.int .i64 z):=(A3.out.cell 0).trans rfl
   have c1:w3.cell? ⟨bx,1,none⟩=some (.slice a3 m cap3):=(A3.out.cell 1).trans rfl
   have Q4:Hid (Below w3.heap.size w3 (w3.alloc (.cells (chRow z (.slice a3 m cap3)) 76))):=zh ((Below.refl _ _).alloc (Nat.le_refl _) _)
   have O4:Hid ((w3.alloc (.cells (chRow z (.slice a3 m cap3)) 76)).ownsRow w.heap.size 76 2 (.slice ao j co) j (chVs ws)):=zh (by have h:=World.ownsRow.alloc O3.out.o (.cells (chRow z (.slice a3 m cap3)) 76);rw [TL.out j hj] at h;exact h)
   have B4:Hid (w.heap.size≤(w3.alloc (.cells (chRow z (.slice a3 m cap3)) 76)).heap.size):=zh (by have:=B3.out.size;simp;omega)
   have BLD:=zh (buildCh z);have BT:=zh (builtCh z)
   go_upto_region 6 with (first
    | (refine Mem.wpList_build zr 76 _ #[(0,.int .i64 z),(1,.slice a3 m cap3)] (.agg (chRow z (.slice a3 m cap3))) zr (by first | rfl | simp [Act.eval]) (fun wx=>BLD.out _ _ _ wx) ?_)
    | ((refine Go.Great.wpList_buildSliceTo zr 50 76 1 _ zr _ zr _ zr Tryz.underlying50 (chRow z (.slice a3 m cap3)) (by first | (simp [Act.eval,Act.put];exact BT.out _ _ _) | (go_simp;exact BT.out _ _ _) | (simp only [List.map_toArray,List.map_cons,List.map_nil];exact BT.out _ _ _)) ?_))
    | (at_builtin;go_loud (refine wpList_append_app zr _ _ 50 zr (.slice (some ⟨w3.heap.size,0,none⟩) 1 1) j 1 2 [.int .i64 z,.slice a3 m cap3] (.agg #[.int .i64 0,.slice none 0 0]) 32 elemCh zr (by decide) zr O4.out zr (by exact rdR_new (e:=76) (C:=chRow z (.slice a3 m cap3))) (by simp [Value.oneCell']) (by omega) (by omega) B4.out ?_);intro v8 w8 ho8 ha8 hb8;have O8:=zh ho8;have A8:=zh ha8;have B8:=zh hb8;clear ho8 ha8 hb8))
   clear c0 c1
   have O9:Hid (∃ D ws,OwnL TB w8 w.heap.size 76 v8 D ws (C.take (j+1))):=zh (by
    rw [HTK.out]
    have h3:=O3.out
    have hst:SlB (fun k=>k < w.heap.size) w3 (.slice a3 m cap3) x:=SB.out.keep B3.out.size fun k hk _=>B3.out.block k hk
    refine ⟨_,_,h3.add (G:=fun k=>k < w.heap.size) elseB hst (fun k hk=>⟨Nat.lt_of_lt_of_le hk B3.out.size,fun e=>?_⟩) Q4.out (by exact A8.out) (by rw [TL.out j hj];exact O8.out)⟩
    have:=(World.ownsRow.lt h3.o k e).1
    omega)
   have B9:Hid (Below w.heap.size w w8):=zh ((B3.out.trans (Q4.out.mono B3.out.size)).trans B8.out)
   go_wp2_with fail
   go_roundw
   case rel=>exact ⟨j+1,by omega,by go_num,O9.out,B9.out⟩
   case measure=>simp [intOf];omega
  ·have hjn:j=n:=by omega
   subst hjn
   have hge:¬ (j:Int) < (j:Int):=by omega
   rw [ALL.out] at OW
   have SV:=zh (own_chs OW.out)
   go_wp2_with fail
   go_ret
   exact ⟨_,rfl,SV.out,BW.out⟩
def fullC (C:List ChV):List ChV:=C.map fun c=>(c.1,pageL c.2)
theorem fullC_length (C:List ChV):(fullC C).length=C.length:=by simp [fullC]
theorem fullC_get (C:List ChV) (j:Nat) (hj:j < C.length):(fullC C).getD j zch=((C.getD j zch).1,pageL (C.getD j zch).2):=by
 unfold fullC
 rw [List.getD_eq_getElem?_getD,List.getElem?_map,List.getElem?_eq_getElem hj,List.getD_eq_getElem?_getD,List.getElem?_eq_getElem hj];rfl
def FuEnd (w:World) (C:List ChV) (e:Ending) (w':World):Prop:=∃ v' D ws,e=.returned v'∧OwnL TB w' w.heap.size 125 v' D ws C∧(∀ k,D k→w.heap.size≤k)∧Below w.heap.size w w'
theorem full16_own (C:List ChV) (v:Value) (w:World) (hv:SlCh w v C) (hl:C.length≤1000):Calls Tryz.prog 12 #[v] w (FuEnd w (fullC C)):=by
 obtain ⟨i8,hi8,hz8,hs8,hb8⟩:=info_parts infoU8
 obtain ⟨av,cv,rfl⟩:=hv.hd
 have htk:∀ j,j < C.length→(fullC C).take (j+1)=(fullC C).take j++[((C.getD j zch).1,pageL (C.getD j zch).2)]:=fun j hj=>by
  rw [ch_take (fullC C) zch j (by rw [fullC_length];exact hj),fullC_get C j hj]
 have hall:(fullC C).take C.length=fullC C:=List.take_of_length_le (by rw [fullC_length];exact Nat.le_refl _)
 have htl:∀ j,j≤C.length→((fullC C).take j).length=j:=fun j hj=>by rw [List.length_take,fullC_length];omega
 obtain ⟨FC,hFC⟩:∃ F,F=fullC C:=⟨_,rfl⟩
 rw [←hFC] at htk hall htl ⊢
 obtain ⟨n,hn⟩:∃ n,n=C.length:=⟨_,rfl⟩
 rw [←hn] at hv hl htk hall htl ⊢
 have HV:=zh hv;have TK:=zh htk;have ALL:=zh hall;have TL:=zh htl;have HN:=zh hn
 have I8:=zh hi8;have Z8:=zh hz8;have S8:=zh hs8;have B8':=zh hb8
 clear hv htk hall htl hn hi8 hz8 hs8 hb8 hFC
 go_enter Tryz.func12,Tryz.ntmps12
 go_wp2_with fail
 go_loopw [3,9] (fun vo vi wr=>∃ j:Nat,j≤n∧vi=.int .i64 (j:Int)∧(∃ D ws,OwnL TB wr w.heap.size 125 vo D ws (FC.take j)∧∀ k,D k→w.heap.size≤k)∧Below w.heap.size w wr) (fun _ vi _=>n - (intOf vi).toNat)
 case atStart=>exact ⟨0,by omega,rfl,⟨fun _=>False,[],by rw [List.take_zero];exact ownL_nil _ _ _,fun _ h=>False.elim h⟩,Below.refl _ _⟩
 case round=>
  obtain ⟨j,hj,rfl,⟨D,ws,ho,hdl⟩,hbw⟩:=hrel
  have DL:=zh hdl
  clear hdl
  have OW:=zh ho;have BW:=zh hbw;have VW:=zh (HV.out.below hbw)
  obtain ⟨ao,co,hvo⟩:=rows_hd ho.o
  rw [TL.out j hj] at hvo
  subst hvo
  clear ho hbw
  by_cases hlt:j < n
  ·have hlt':(j:Int) < (n:Int):=by omega
   obtain ⟨b1,o1,u,e1,hlb,cz0,cu0,hsu⟩:=slch_at (i:=j) HV.out HN.out hlt
   subst e1
   have htk:=TK.out j hlt
   obtain ⟨x,hx⟩:∃ x,x=(C.getD j zch).2:=⟨_,rfl⟩
   obtain ⟨z,hz⟩:∃ z,z=(C.getD j zch).1:=⟨_,rfl⟩
   rw [←hx,←hz] at htk
   rw [←hx] at hsu
   obtain ⟨a3,cap3,rfl⟩:=sl_inv hsu
   have SX:=zh hsu
   obtain ⟨m,hm⟩:∃ m,m=x.length:=⟨_,rfl⟩
   rw [←hm] at cu0 SX
   obtain ⟨k,hk⟩:∃ k,k=Nat.min x.length 256:=⟨_,rfl⟩
   have hsp:=splice_page x k hk
   have hk256:k≤256:=by rw [hk];exact Nat.min_le_right _ _
   have pl:=pageL_length x
   obtain ⟨MP,hMP⟩:∃ M,M=(u8s (pageL x)).toArray:=⟨_,rfl⟩
   rw [←hMP] at hsp
   have cz:wr.cell? ⟨b1,o1+j*2,none⟩=some (.int .i64 z):=by rw [hz];exact (cell_keep BW.out hlb).trans cz0
   have cu:wr.cell? ⟨b1,o1+j*2+1,none⟩=some (.slice a3 m cap3):=(cell_keep BW.out hlb).trans cu0
   have hb3:Below wr.heap.size wr (wr.alloc (.cells (chRow z (.slice a3 m cap3)) 125)):=(Below.refl _ _).alloc (Nat.le_refl _) _
   have A3:=zh (at_new wr (chRow z (.slice a3 m cap3)) 125)
   have B3:Hid (Below w.heap.size w (wr.alloc (.cells (chRow z (.slice a3 m cap3)) 125))):=zh (BW.out.alloc BW.out.size _)
   have O3:=zh (OW.out.below elseB hb3)
   have HTK:=zh htk;have SP:=zh hsp;have HK:=zh hk;have HM:=zh hMP;have PL:=zh pl
   clear cz0 cu0 htk hsu hx hz hm hlb hb3 hsp hk pl hMP
   go_upto_region 5 with (refine wpList_store_new zr 125 _ _ zr zr (chRow z (.slice a3 m cap3)) _ _ zr zr (by exact infoChR) zr (chRow_one _ _ _ _) ?_)
   clear cz cu
   obtain ⟨bx,hbx⟩:∃ bx,bx=wr.heap.size:=⟨_,rfl⟩
   rw [←hbx] at A3 ⊢
   clear hbx
   generalize wr.alloc (.cells (chRow z (.slice a3 m cap3)) 125)=w3 at *
   go_upto_region 6 with (refine wpList_make_full _ zr _ _ 63 zr w3.heap.size 5 i8 (.int .u8 0) 1 Tryz.underlying63 I8.out Z8.out S8.out .i64 .i64 256 256 256 zr zr rfl rfl (by rw [B8'.out];omega) (by simp [maxLen]) (Nat.le_refl _) ?_;intro w4 ho4 hg4;have R4:Hid (At w4 w3.heap.size (u8s (List.replicate 256 0)).toArray 5):=zh (by have h:=own_full ho4;rw [made_zeros] at h;exact h);have B4:Hid (Below w3.heap.size w3 w4):=zh ((Below.refl _ _).grown hg4 (Nat.le_refl _) (fun _ h=>by cases h));clear ho4 hg4)
   obtain ⟨g,hg⟩:∃ g,g=w3.heap.size:=⟨_,rfl⟩
   have HG:=zh hg
   have SL4:=zh ((SX.out.below B3.out).below B4.out)
   have A4:=zh (A3.out.below B4.out A3.out.lt)
   rw [←hg] at R4 ⊢
   clear hg
   have c1:w4.cell? ⟨bx,1,none⟩=some (.slice a3 m cap3):=(A4.out.cell 1).trans rfl
   go_upto_region 7 with (refine wpList_copy_sl zr _ _ zr g 0 256 256 (.slice a3 m cap3) x zr zr SL4.out k HK.out _ _ R4.out (by simp [u8s];omega) _ SP.out ?_;intro w5 ha5 hs5 ho5 hbb5;have R5:=zh ha5;have B5:=zh (hbb5 _ _ B4.out (by rw [HG.out];exact Nat.le_refl _));clear ha5 hs5 ho5 hbb5)
   have O5:Hid (SlB (fun k=>w3.heap.size≤k) w5 (.slice (some ⟨g,0,none⟩) 256 256) (pageL x)):=zh (by
    have h:=own_fulls (L:=pageL x) (by rw [←HM.out];exact R5.out) (by rw [HG.out];exact Nat.le_refl w3.heap.size) (by rw [PL.out];decide)
    rw [PL.out] at h
    exact OwnB.slB h)
   clear c1
   have A5:=zh (A3.out.below B5.out A3.out.lt)
   have c0:w5.cell? ⟨bx,0,none⟩=some (.int .i64 z):=(A5.out.cell 0).trans rfl
   have BW5:Hid (Below w.heap.size w w5):=zh (B3.out.trans (B5.out.mono B3.out.size))
   have OL5:=zh (O3.out.below elseB B5.out)
   have Q4:Hid (Below w5.heap.size w5 (w5.alloc (.cells (chRow z (.slice (some ⟨g,0,none⟩) 256 256)) 125))):=zh ((Below.refl _ _).alloc (Nat.le_refl _) _)
   have O4:Hid ((w5.alloc (.cells (chRow z (.slice (some ⟨g,0,none⟩) 256 256)) 125)).ownsRow w.heap.size 125 2 (.slice ao j co) j (chVs ws)):=zh (by have h:=World.ownsRow.alloc OL5.out.o (.cells (chRow z (.slice (some ⟨g,0,none⟩) 256 256)) 125);rw [TL.out j hj] at h;exact h)
   have B4':Hid (w.heap.size≤(w5.alloc (.cells (chRow z (.slice (some ⟨g,0,none⟩) 256 256)) 125)).heap.size):=zh (by have:=BW5.out.size;simp;omega)
   have BLD:=zh (buildChR z);have BT:=zh (builtChR z)
   go_upto_region 8 with (first
    | (refine Mem.wpList_build zr 125 _ #[(0,.int .i64 z),(1,.slice (some ⟨g,0,none⟩) 256 256)] (.agg (chRow z (.slice (some ⟨g,0,none⟩) 256 256))) zr (by first | rfl | simp [Act.eval]) (fun wx=>BLD.out _ _ _ wx) ?_)
    | ((refine Go.Great.wpList_buildSliceTo zr 29 125 1 _ zr _ zr _ zr Tryz.underlying29 (chRow z (.slice (some ⟨g,0,none⟩) 256 256)) (by first | (simp [Act.eval,Act.put];exact BT.out _ _ _) | (go_simp;exact BT.out _ _ _) | (simp only [List.map_toArray,List.map_cons,List.map_nil];exact BT.out _ _ _)) ?_))
    | (at_builtin;go_loud (refine wpList_append_app zr _ _ 29 zr (.slice (some ⟨w5.heap.size,0,none⟩) 1 1) j 1 2 [.int .i64 z,.slice (some ⟨g,0,none⟩) 256 256] (.agg #[.int .i64 0,.slice none 0 0]) 32 elemChR zr (by decide) zr O4.out zr (by exact rdR_new (e:=125) (C:=chRow z (.slice (some ⟨g,0,none⟩) 256 256))) (by simp [Value.oneCell']) (by omega) (by omega) B4'.out ?_);intro v8 w8 ho8 ha8 hb8;have O8:=zh ho8;have A8:=zh ha8;have B8:=zh hb8;clear ho8 ha8 hb8))
   clear c0
   have W3:Hid (w.heap.size≤w3.heap.size):=zh B3.out.size
   have O9:Hid (∃ D ws,OwnL TB w8 w.heap.size 125 v8 D ws (FC.take (j+1))∧∀ k,D k→w.heap.size≤k):=zh (by
    rw [HTK.out]
    refine ⟨_,_,OL5.out.add (G:=fun k=>w3.heap.size≤k∧k < w5.heap.size) elseB (O5.out.mono fun k hk hl=>⟨hk,hl⟩) (fun k hk=>⟨hk.2,fun e=>?_⟩) Q4.out (by exact A8.out) (by rw [TL.out j hj];exact O8.out),fun k hk=>hk.elim (DL.out k) fun h=>Nat.le_trans W3.out h.1⟩
    have:=(World.ownsRow.lt O3.out.o k e).2
    have:=hk.1
    omega)
   have B9:Hid (Below w.heap.size w w8):=zh ((BW5.out.trans (Q4.out.mono BW5.out.size)).trans B8.out)
   go_wp2_with fail
   go_roundw
   case rel=>exact ⟨j+1,by omega,by go_num,O9.out,B9.out⟩
   case measure=>simp [intOf];omega
  ·have hjn:j=n:=by omega
   subst hjn
   have hge:¬ (j:Int) < (j:Int):=by omega
   rw [ALL.out] at OW
   go_wp2_with fail
   go_ret
   exact ⟨_,D,ws,rfl,OW.out,DL.out,BW.out⟩
theorem full16_any (C:List ChV) (v:Value) (w:World) (hv:SlCh w v C) (hl:C.length≤1000):Calls Tryz.prog 12 #[v] w fun e w'=>∃ v',e=.returned v'∧SlCh w' v' (fullC C)∧Below w.heap.size w w':=
 (full16_own C v w hv hl).mono fun _ _ ⟨v',_,_,a,b,_,c⟩=>⟨v',a,own_chs b,c⟩
end Sha
end Go.Proofs.YtplmfmpbkjnbaaaGreatDoor
