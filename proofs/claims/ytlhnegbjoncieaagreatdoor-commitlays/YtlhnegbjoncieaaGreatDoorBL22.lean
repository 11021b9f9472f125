/- A block's words behind the rounds: the walks of the function literal and of the rounds. The rounds of a block's words: their walk. -/
import Derived.Test.YtlhnegbjoncieaaGreatDoorBL19
set_option maxRecDepth 100000
set_option maxHeartbeats 2000000
namespace Go.Proofs.YtlhnegbjoncieaaGreatDoor
namespace Mem
open Go.RowKit
theorem wpList_index_rows {P:Program} {ops:Array Oper} {rest:List Oper} {op:Oper} {a:Act} {w:World} {Q:Exit→Act→World→Prop} (hgd:op.guard=none) (ty:TypeId) (x i:Operand) (ho:op.op=.index ty x i)
 (n:Nat) (e:TypeId) (hu:P.underlying ty=some (.array n e)) (de:TypeDesc) (he:P.underlying e=some de) (hde:de.isRow=true) (z:Nat) (hs:(P.info? e).map (·.size)=some z)
 (C:Array Value) (k:Nat) (hx:a.eval x=.agg C) (hi:a.eval i=.int .i64 (k:Int)) (hk:k < n) (R:Array Value) (hR:C.extract (k*z) (k*z+z)=R)
 (h:wpList P ops Q rest (a.put op.dst (.agg R)) w):wpList P ops Q (op::rest) a w:=by
 refine wpList_plain hgd fun K hK=>?_
 have hagg:(isAgg e).run P w=.ok true w:=by
  unfold isAgg
  rw [Sem.run_bind,run_underlying he w]
  cases de <;> simp_all
 cases hq:P.info? e with
 | none=>simp [hq] at hs
 | some q=>
  have hs1:q.size=z:=by simpa [hq] using hs
  have hrun:(Instr.index ty (.agg C) (.int .i64 (k:Int))).run P w=.ok (.agg R) w:=by
   simp [Instr.index,asIntOf,Sem.run_bind,run_underlying hu,sizeOf,typeInfo,hq,hs1,hk,part,hagg,hR]
  unfold Oper.wp execOp
  simp only [ho,hx,hi,Sem.run_bind,hrun,Result.andThen_ok,Sem.run_pure]
  exact hK _ _ h
end Mem
namespace Sha
open Go.RowKit Mem
theorem ints_get (l:List Nat) (i:Nat) (h:i < l.length):(ints l)[i]?=some (.int .i64 ((l.getD i 0:Nat):Int)):=by simp [ints,h]
theorem ints_one (l:List Nat):(ints l).toArray.all (·.oneCell')=true:=by simp [ints,Value.oneCell']
theorem ints_length (l:List Nat):(ints l).length=l.length:=by simp [ints]
def qset (W:List (BitVec 32)) (p:List Nat) (L:List (BitVec 32)):Nat→List (BitVec 32)
 | 0=>W
 | j+1=>(qset W p L j).set (p.getD j 0) (L.getD j 0)
theorem qset_length (W:List (BitVec 32)) (p:List Nat) (L:List (BitVec 32)):∀ j,(qset W p L j).length=W.length
 | 0=>rfl
 | j+1=>by rw [qset,List.length_set,qset_length W p L j]
def qin (W:List (BitVec 32)) (p:List Nat):Q4:=⟨W.getD (p.getD 0 0) 0,W.getD (p.getD 1 0) 0,W.getD (p.getD 2 0) 0,W.getD (p.getD 3 0) 0⟩
theorem qin_get (W:List (BitVec 32)) (p:List Nat) (j:Nat) (h:j < 4):(qin W p).list.getD j 0=W.getD (p.getD j 0) 0:=by
 have:j=0∨j=1∨j=2∨j=3:=by omega
 rcases this with rfl | rfl | rfl | rfl <;> rfl
theorem qset_all (W:List (BitVec 32)) (p:List Nat):qset W p (qr (qin W p)).list 4=qpl W p:=rfl
theorem qOf_get (q:Q4) (j:Nat) (h:j < 4):(qOf q)[j]?=some (.int .u32 (V (q.list.getD j 0))):=by
 rw [qOf,List.getElem?_toArray];exact u32s_get q.list j h
structure T1Inv (G:Array Value) (L:List (BitVec 32)) (w wr:World):Prop where
 g:At wr w.heap.size G 297
 k:At wr (w.heap.size+1) (u32s L).toArray 293
 b:Below w.heap.size w wr
structure T2Inv (G:Array Value) (W:List (BitVec 32)) (bw:Nat) (w wr:World):Prop where
 g:At wr w.heap.size G 297
 a:At wr bw (u32s W).toArray 285
 o:But bw w wr
 k:∀ B x,Below B x w→B≤bw→B≤w.heap.size→Below B x wr
theorem clit_any (W:List (BitVec 32)) (p:List Nat) (bw:Nat) (w:World) (lW:W.length=16) (lp:p.length=4) (hp:∀ j,j < 4→p.getD j 0 < 16) (ha:At w bw (u32s W).toArray 285) :
 Calls Tryz.prog 206 #[.agg (ints p).toArray,.pointer (some ⟨bw,0,none⟩)] w fun e w'=>e=.returned (.tuple #[])∧At w' bw (u32s (qpl W p)).toArray 285∧But bw w w'∧(∀ B x,Below B x w→B≤bw→B≤w.heap.size→Below B x w'):=by
 obtain ⟨X,hX⟩:∃ X,X=Z4:=⟨_,rfl⟩
 have hx:=zero4
 rw [←hX] at hx
 obtain ⟨G,hG⟩:∃ G,G=(ints p).toArray:=⟨_,rfl⟩
 have gj:∀ j,j < 4→G[j]?=some (.int .i64 ((p.getD j 0:Nat):Int)):=fun j hj=>by rw [hG,List.getElem?_toArray];exact ints_get p j (by omega)
 obtain ⟨F,hF⟩:∃ F,F=(qin W p).list:=⟨_,rfl⟩
 have lF:F.length=4:=by rw [hF];rfl
 have fj:∀ j,j < 4→F.getD j 0=W.getD (p.getD j 0) 0:=by rw [hF];exact qin_get W p
 rw [←hG]
 have hI:T1Inv G (rowY F 4 0) w ((w.alloc (.cells G 297)).alloc (.cells X 293)):=by
  refine ⟨(at_new w G _).alloc _,?_,((Below.refl _ _).alloc (Nat.le_refl _) _).alloc (by simp) _⟩
  have h:=at_new (w.alloc (.cells G 297)) X 293
  have e:(u32s (rowY F 4 0)).toArray=X:=by rw [hX];simp [rowY,Z4,u32s]
  rw [e]
  simpa using h
 have hbw:bw < w.heap.size:=ha.lt
 have HI:=zh hI;have GJ:=zh gj;have LF:=zh lF;have FJ:=zh fj;have HF:=zh hF;have LW:=zh lW;have HP:=zh hp;have HA:=zh ha;have BW:=zh hbw
 have HGS:Hid (G.size=4):=by show G.size=4;rw [hG];simp [ints,lp]
 clear hI gj lF fj hF lW hp ha hG hX lp hbw
 go_enter Tryz.func206,Tryz.ntmps206
 go_wp2_with (refine wpList_load_all zr 297 _ zr w.heap.size zr _ Tryz.underlying297 zr G _ HI.out.g (by rw [HGS.out];kernel_rfl) ?_)
 clear hx
 generalize (w.alloc (.cells G 297)).alloc (.cells X 293)=w4 at *
 go_loopw [4,5,9] (fun _ _ i wr=>∃ j:Nat,j≤4∧i=.int .i64 j∧T1Inv G (rowY F 4 j) w wr) (fun _ _ i _=>4 - (intOf i).toNat)
 case atStart=>exact ⟨0,by omega,rfl,HI.out⟩
 case round=>
  clear HI
  obtain ⟨j,hj,rfl,hI⟩:=hrel
  by_cases hlt:j < 4
  ·obtain ⟨q,hq⟩:∃ q,q=p.getD j 0:=⟨_,rfl⟩
   have gq:=GJ.out j hlt
   have q16:=HP.out j hlt
   have fx:=FJ.out j hlt
   rw [←hq] at gq q16 fx
   obtain ⟨x,hxx⟩:∃ x,x=W.getD q 0:=⟨_,rfl⟩
   rw [←hxx] at fx
   have cq:wr.cell? ⟨bw,q,none⟩=some (.int .u32 (V x)):=by
    rw [(HA.out.below hI.b HA.out.lt).cell,List.getElem?_toArray,u32s_get W q (by rw [LW.out];exact q16),hxx]
   have hset:(u32s (rowY F 4 j)).toArray.setIfInBounds j (.int .u32 (V x))=(u32s (rowY F 4 (j+1))).toArray:=by
    rw [←rowY_set F 4 j LF.out (by omega),fx];exact u32s_set _ _ _
   have hEs:j < (u32s (rowY F 4 j)).toArray.size:=by simp [u32s,rowY_length F 4 j LF.out (by omega)];omega
   have hk:=hI.k
   obtain ⟨E,hE⟩:∃ E,E=(u32s (rowY F 4 j)).toArray:=⟨_,rfl⟩
   rw [←hE] at hk hset hEs
   have KK:=zh hk;have ST:=zh hset;have ES:=zh hEs;have GG:=zh hI.g;have BB:=zh hI.b;have GQ:=zh gq
   have hlt':(j:Int) < 4:=by omega
   have q16':(q:Int) < 16:=by omega
   clear hk hset hEs hI hE hq hxx fx gq
   go_wp2_with (first
    | (refine wpList_index_row zr 297 _ _ zr 4 3 Tryz.underlying297 _ Tryz.underlying3 zr (by kernel_rfl) G j zr zr hlt _ GQ.out ?_)
    | (refine Mem.wpList_store_one zr 36 _ _ zr zr (w.heap.size+1) j (.int .u32 (V x)) zr zr zr infoU32 _ _ KK.out ES.out ?_;intro w' hat' ho' hb';have KK':=zh hat';have GG':=zh (at_keep GG.out ho' (by omega));have BB':=zh (hb' _ _ BB.out (by omega));clear hat' ho' hb'))
   go_roundw
   case rel=>exact ⟨j+1,by omega,by go_num,GG'.out,by rw [←ST.out];exact KK'.out,BB'.out⟩
   case measure=>simp [intOf];omega
  ·have hj4:j=4:=by omega
   have hge:¬ (j:Int) < 4:=by omega
   rw [hj4,rowY_all F 4 LF.out] at hI
   have hk:=hI.k
   rw [show (u32s F).toArray=qOf (qin W p) by rw [HF.out];rfl] at hk
   obtain ⟨K,hK⟩:∃ K,K=qOf (qin W p):=⟨_,rfl⟩
   obtain ⟨R,hR⟩:∃ R,R=qOf (qr (qin W p)):=⟨_,rfl⟩
   obtain ⟨L,hLL⟩:∃ L,L=(qr (qin W p)).list:=⟨_,rfl⟩
   have hq:=fun wx=>quarter_any (qin W p) wx
   rw [←hK,←hR] at hq
   rw [←hK] at hk
   have hKs:K.size=4:=by rw [hK];rfl
   have rj:∀ j,j < 4→R[j]?=some (.int .u32 (V (L.getD j 0))):=by rw [hR,hLL];exact qOf_get _
   have hend:qset W p L 4=qpl W p:=by rw [hLL];exact qset_all W p
   have KK:=zh hk;have QU:=zh hq;have KS:=zh hKs;have RJ:=zh rj;have EN:=zh hend;have GG:=zh hI.g;have BB:=zh hI.b
   clear hI hj4 hlt hj hk hq hKs rj hend hK hR hLL HF LF FJ
   go_wp2_with (refine wpList_load_all zr 293 _ zr (w.heap.size+1) zr _ Tryz.underlying293 zr K _ KK.out (by rw [KS.out];exact infoQ) ?_)
   refine (QU.out _).mono ?_
   rintro e w' ⟨rfl,hb⟩
   have hI2:T2Inv G (qset W p L 0) bw w w':=by
    have hbb:=BB.out.trans (hb.mono BB.out.size)
    exact ⟨GG.out.below hb GG.out.lt,HA.out.below hbb HA.out.lt,(But.refl _ _).below hbb,fun B x h _ h2=>h.trans (hbb.mono h2)⟩
   have II:=zh hI2
   clear hb hI2 QU KK GG BB KS
   go_wp2_with fail
   go_loopw [6,7,21] (fun _ _ i wr=>∃ j:Nat,j≤4∧i=.int .i64 j∧T2Inv G (qset W p L j) bw w wr) (fun _ _ i _=>4 - (intOf i).toNat)
   case atStart=>exact ⟨0,by omega,rfl,II.out⟩
   case round=>
    clear II
    obtain ⟨j,hj,rfl,hI⟩:=hrel
    by_cases hlt:j < 4
    ·obtain ⟨q,hq⟩:∃ q,q=p.getD j 0:=⟨_,rfl⟩
     have gq:=GJ.out j hlt
     have q16:=HP.out j hlt
     have rx:=RJ.out j hlt
     rw [←hq] at gq q16
     obtain ⟨x,hxx⟩:∃ x,x=L.getD j 0:=⟨_,rfl⟩
     rw [←hxx] at rx
     have cg:wr.cell? ⟨w.heap.size,j,none⟩=some (.int .i64 (q:Int)):=by rw [hI.g.cell,gq]
     have hset:(u32s (qset W p L j)).toArray.setIfInBounds q (.int .u32 (V x))=(u32s (qset W p L (j+1))).toArray:=by
      rw [qset,←hq,←hxx];exact u32s_set _ _ _
     have hEs:q < (u32s (qset W p L j)).toArray.size:=by have:=LW.out;simp [u32s,qset_length];omega
     have hk:=hI.a
     obtain ⟨E,hE⟩:∃ E,E=(u32s (qset W p L j)).toArray:=⟨_,rfl⟩
     rw [←hE] at hk hset hEs
     have KK:=zh hk;have ST:=zh hset;have ES:=zh hEs;have GG:=zh hI.g;have OO:=zh hI.o;have BB:=zh hI.k;have RX:=zh rx
     have hlt':(j:Int) < 4:=by omega
     have q16':(q:Int) < 16:=by omega
     clear hk hset hEs hI hE hq hxx rx gq
     go_wp2_with (first
      | (refine wpList_index_row zr 293 _ _ zr 4 36 Tryz.underlying293 _ Tryz.underlying36 zr infoU32 R j zr zr hlt _ RX.out ?_)
      | (refine Mem.wpList_store_one zr 36 _ _ zr zr bw q (.int .u32 (V x)) zr zr zr infoU32 _ _ KK.out ES.out ?_;intro w' hat' ho' hb';have KK':=zh hat';have GG':=zh (at_keep GG.out ho' (by have:=BW.out;omega));have OO':=zh (OO.out.row (hb' bw _ (Below.refl _ _) (Nat.le_refl _)).size ho');have BB':=zh (fun B y (h:Below B y w) (hB:B≤bw) (h2:B≤w.heap.size)=>hb' B y (BB.out B y h hB h2) hB);clear hat' ho' hb'))
     go_roundw
     case rel=>exact ⟨j+1,by omega,by go_num,GG'.out,by rw [←ST.out];exact KK'.out,OO'.out,BB'.out⟩
     case measure=>simp [intOf];omega
    ·have hj4:j=4:=by omega
     have hge:¬ (j:Int) < 4:=by omega
     rw [hj4,EN.out] at hI
     have II:=zh hI
     clear hI hj4 hlt hj
     go_wp2_with fail
     go_end0
     exact ⟨rfl,II.out.a,II.out.o,II.out.k⟩
end Sha
end Go.Proofs.YtlhnegbjoncieaaGreatDoor
namespace Go.Proofs.YtlhnegbjoncieaaGreatDoor
namespace Sha
open Go.RowKit Mem
theorem plc_row (m:Nat) (h:m < 8):(ints plc.flatten).toArray.extract (m*4) (m*4+4)=(ints (plc.getD m [])).toArray∧(plc.getD m []).length=4∧∀ j,j < 4→(plc.getD m []).getD j 0 < 16:=by
 have:m=0∨m=1∨m=2∨m=3∨m=4∨m=5∨m=6∨m=7:=by omega
 rcases this with rfl | rfl | rfl | rfl | rfl | rfl | rfl | rfl <;> exact ⟨rfl,rfl,by decide⟩
def Zi4:Array Value:=#[.int .i64 0,.int .i64 0,.int .i64 0,.int .i64 0]
theorem zeroI4 (w:World):(zeroValue 297).run Tryz.prog w=.ok (.agg Zi4) w:=by kernel_rfl
theorem infoI4:(Tryz.prog.info? 297).map (·.size)=some 4:=by kernel_rfl
theorem infoI32:(Tryz.prog.info? 299).map (·.size)=some 32:=by kernel_rfl
structure RInv (X:Array Value) (L:List (BitVec 32)) (w wr:World):Prop where
 a:At wr w.heap.size (u32s L).toArray 285
 r:At wr (w.heap.size+1) X 285
 b:Below w.heap.size w wr
def rdOf (W:List (BitVec 32)):Array Value:=(u32s (all8 W 10)).toArray
theorem rdOf_size (W:List (BitVec 32)) (h:W.length=16):(rdOf W).size=16:=by simp [rdOf,u32s,all8_length,h]
theorem turnWords_any (W:List (BitVec 32)) (lW:W.length=16) (w:World) (hL:CTabs w) :
 Calls Tryz.prog 198 #[.agg (u32s W).toArray] w fun e w'=>e=.returned (.agg (rdOf W))∧Below w.heap.size w w':=by
 have hmf:∀ (fn:Fn) (first cap:Array Value) (w:World),(Instr.makeFunc fn first cap).run Tryz.prog w=.ok (.func fn first cap) w:=fun _ _ _ _=>rfl
 obtain ⟨X,hX⟩:∃ X,X=Z16:=⟨_,rfl⟩
 have hx:=zero16
 rw [←hX] at hx
 have hXs:X.size=16:=by rw [hX];simp [Z16,u32s]
 obtain ⟨Y,hY⟩:∃ Y,Y=Zi4:=⟨_,rfl⟩
 have hy:=zeroI4
 rw [←hY] at hy
 have hYs:Y.size=4:=by rw [hY];rfl
 obtain ⟨C,hC⟩:∃ C,C=(u32s W).toArray:=⟨_,rfl⟩
 rw [←hC]
 have hI:RInv X (all8 W 0) w ((w.alloc (.cells C 285)).alloc (.cells X 285)):=by
  refine ⟨by rw [all8,←hC];exact (at_new w C _).alloc _,?_,((Below.refl _ _).alloc (Nat.le_refl _) _).alloc (by simp) _⟩
  have h:=at_new (w.alloc (.cells C 285)) X 285
  simpa using h
 obtain ⟨PL,hPL⟩:∃ PL,PL=ints plc.flatten:=⟨_,rfl⟩
 have pt:=fun wx (hb:Below w.heap.size w wx)=>(hL.p.below hb hL.p.lt).c
 have pr:=fun m (h:m < 8)=>(plc_row m h).1
 have ps:(Tryz.prog.info? 299).map (·.size)=some PL.length:=by rw [hPL];exact infoI32
 rw [←hPL] at pt pr
 have HI:=zh hI;have XS:=zh hXs;have YS:=zh hYs;have PT:=zh pt;have PR:=zh pr;have PS:=zh ps;have LW:=zh lW
 clear hI hXs hYs hX hY hC hPL pt pr ps lW hL
 go_enter Tryz.func198,Tryz.ntmps198
 go_wp2_with fail
 generalize (w.alloc (.cells C 285)).alloc (.cells X 285)=w4 at *
 go_loopw [5,7] (fun _ i wr=>∃ r:Nat,r≤10∧i=.int .i64 r∧RInv X (all8 W r) w wr) (fun _ i _=>10 - (intOf i).toNat)
 case atStart=>exact ⟨0,by omega,rfl,HI.out⟩
 case round=>
  clear HI
  obtain ⟨r,hr,rfl,hI⟩:=hrel
  by_cases hlt:r < 10
  ·obtain ⟨L,hLL⟩:∃ L,L=all8 W r:=⟨_,rfl⟩
   have hnext:some8 L 8=all8 W (r+1):=by rw [hLL];rfl
   have lL:L.length=16:=by rw [hLL,all8_length];exact LW.out
   rw [←hLL] at hI
   have II:=zh hI;have NX:=zh hnext;have LL:=zh lL
   have hlt':(r:Int) < 10:=by omega
   clear hI hnext lL hLL
   go_wp2_with (refine wpList_load_mid zr 299 _ zr 3 0 zr PL _ (PT.out _ II.out.b) Tryz.underlying299 zr PS.out ?_)
   obtain ⟨wo,rfl⟩:∃ wo:World,wo=wr:=⟨_,rfl⟩
   go_loopw [5,10] (fun _ i wr=>∃ m:Nat,m≤8∧i=.int .i64 m∧RInv X (some8 L m) w wr) (fun _ i _=>8 - (intOf i).toNat)
   case atStart=>exact ⟨0,by omega,rfl,II.out⟩
   case round=>
    clear II
    obtain ⟨m,hm,rfl,hI⟩:=hrel
    by_cases hlt2:m < 8
    ·obtain ⟨_,p2,p3⟩:=plc_row m hlt2
     have p1:=PR.out m hlt2
     have hnx:some8 L (m+1)=qpl (some8 L m) (plc.getD m []):=some8_next L m hlt2
     have l8:(some8 L m).length=16:=by rw [some8_length L m (by omega)];exact LL.out
     have hli:=fun wx (h:At wx w.heap.size (u32s (some8 L m)).toArray 285)=>clit_any (some8 L m) (plc.getD m []) w.heap.size wx l8 p2 p3 h
     rw [←hnx] at hli
     obtain ⟨G,hG⟩:∃ G,G=(ints (plc.getD m [])).toArray:=⟨_,rfl⟩
     have gs:G.size=4:=by rw [hG,List.size_toArray,ints_length];exact p2
     have go:G.all (·.oneCell')=true:=by rw [hG];exact ints_one _
     rw [←hG] at p1 hli
     have LIT:=zh hli;have P1:=zh p1;have GS:=zh gs;have GO:=zh go;have II:=zh hI
     have hlt3:(m:Int) < 8:=by omega
     clear hli p1 p2 p3 gs go hG hI hnx l8
     go_wp2_with (first
      | (refine wpList_index_rows zr 299 _ _ zr 8 297 Tryz.underlying299 _ Tryz.underlying297 zr 4 infoI4 PL.toArray m zr zr hlt2 G P1.out ?_)
      | (refine wpList_store_new zr 297 _ _ zr zr G _ _ zr zr (by rw [GS.out];exact infoI4) (by rw [GS.out,YS.out]) GO.out ?_)
      | (refine wpList_load_all zr 297 _ zr wr.heap.size zr _ Tryz.underlying297 zr G _ (at_new wr G _) (by rw [GS.out];exact infoI4) ?_))
     refine (LIT.out _ (II.out.a.alloc _)).mono ?_
     rintro e w' ⟨rfl,ha2,hb2,hk2⟩
     have A2:=zh ha2;have R2:=zh ((II.out.r.alloc (.cells G 297)).but hb2 (by omega));have B2:=zh (hk2 _ _ (II.out.b.alloc II.out.b.size (.cells G 297)) (Nat.le_refl _) (by have:=II.out.b.size;simp;omega))
     clear ha2 hb2 hk2 LIT II
     go_wp2_with fail
     go_roundw
     case rel=>exact ⟨m+1,by omega,by go_num,A2.out,R2.out,B2.out⟩
     case measure=>simp [intOf];omega
    ·have hm8:m=8:=by omega
     have hge:¬ (m:Int) < 8:=by omega
     rw [hm8,NX.out] at hI
     have II:=zh hI
     clear hI hm8 hlt2 hm
     go_wp2_with fail
     go_roundw
     case rel=>exact ⟨r+1,by omega,by go_num,II.out⟩
     case measure=>simp [intOf];omega
  ·have hr10:r=10:=by omega
   have hge:¬ (r:Int) < 10:=by omega
   rw [hr10] at hI
   obtain ⟨M,hM⟩:∃ M,M=rdOf W:=⟨_,rfl⟩
   have hk:=hI.a
   rw [show (u32s (all8 W 10)).toArray=M by rw [hM];rfl] at hk
   have hMs:M.size=16:=by rw [hM];exact rdOf_size _ LW.out
   have hMo:M.all (·.oneCell')=true:=by rw [hM];exact u32s_one _
   have HM:=zh hM;have MS:=zh hMs;have MO:=zh hMo;have KK:=zh hk;have RR:=zh hI.r;have BB:=zh hI.b
   clear hM hMs hMo hk hI hlt hr hr10
   go_wp2_with (first | (refine wpList_load_all zr 285 _ zr w.heap.size zr _ Tryz.underlying285 zr M _ KK.out (by rw [MS.out];exact info16) ?_) | (refine wpList_store_all zr 285 _ _ zr zr (w.heap.size+1) M zr zr (by rw [MS.out];exact info16) _ _ RR.out (by rw [MS.out,XS.out]) MO.out ?_))
   try simp only [Exit.inBlock,Exit.then]
   refine ret_row zr (w.heap.size+1) 285 M _ zr (RR.out.row M) Tryz.underlying285 zr (by rw [MS.out];exact info16) ?_
   exact ⟨by rw [HM.out],below_row BB.out (by omega) M⟩
end Sha
end Go.Proofs.YtlhnegbjoncieaaGreatDoor
