/- My own texts, merged. -/
import Derived.Test.YtddjdaocdfkgeaaGreatDoorChecked
import Derived.Test.YtddjdaocdfkgeaaGreatDoorBQ00
import Derived.WalkSpells
import Derived.WalkLawsBesides
import Derived.Lib.Hide
import Derived.Deep.QuietTactic
import Derived.BigQuiet
import Derived.Deep.MidRow
import Derived.Deep.DeepFit
import Derived.Laws.Tables
import Derived.Deep.DeepCutAuto
import Derived.Test.YtddjdaocdfkgeaaGreatDoorRows
import Derived.ProofKit
import Derived.LaidMore
import Derived.LaidHandle
import Derived.OpenShut
import Derived.Stop.Joined
import Derived.Lib.LaidTab
import Derived.MakeChecks
import Derived.SevenTiedAt
import Derived.Carry
import Derived.ChangeOld
import Derived.Deep.Matrix
import Derived.Deep.Strs
import Derived.Lib.SmallJoins
set_option maxRecDepth 100000
set_option maxHeartbeats 8000000
namespace Go.Proofs.YtddjdaocdfkgeaaGreatDoor
namespace Sha
open Go.RowKit Mem
theorem at_keep {w w':World} {b c:Nat} {C:Array Value} {t:TypeId} (h:At w c C t) (o:∀ k,k≠b→w'.heap[k]?=w.heap[k]?) (hne:c≠b):At w' c C t:=by
 unfold At at *;rw [o c hne];exact h
theorem At.app {w w':World} {b:Nat} {C:Array Value} {t:TypeId} {v:Value} (h:At w b C t) (hk:∀ k,k < w.heap.size→v.ownBlock≠some k→w'.heap[k]?=w.heap[k]?) (hne:v.ownBlock≠some b):At w' b C t:=by
 have hl:=h.lt
 unfold At at *
 rw [hk b hl hne];exact h
theorem But.over {b c:Nat} {w w' w2:World} (h:But b w w') (k:But c w' w2) (hc:w.heap.size≤c):But b w w2:=
 ⟨Nat.le_trans h.size k.size,fun j hj hne=>(k.block j (Nat.lt_of_lt_of_le hj h.size) (by omega)).trans (h.block j hj hne)⟩
theorem But.same {b:Nat} {w w' w2:World} (h:But b w w') (k:But b w' w2):But b w w2:=
 ⟨Nat.le_trans h.size k.size,fun j hj hne=>(k.block j (Nat.lt_of_lt_of_le hj h.size) hne).trans (h.block j hj hne)⟩
def Sl (w:World) (v:Value) (l:Lb8):Prop:=
 ∃ a cap,v=.slice a l.length cap∧l.length≤cap∧(l≠[]→∃ bb oo,a=some ⟨bb,oo,none⟩∧bb < w.heap.size∧∀ i,i < l.length→w.cell? ⟨bb,oo+i,none⟩=some (.int .u8 ((l.getD i 0).toNat:Int)))
theorem infoB:(Tryz.prog.info? 5).map (·.size)=some 1:=by kernel_rfl
theorem sl_drop {w:World} {bb oo m cap k:Nat} {a1:Option Addr} {rest:Lb8} (hm:m=rest.length) (hk:k≤m) (hcap:m≤cap) (hbb:bb < w.heap.size)
 (hc:∀ i,i < rest.length→w.cell? ⟨bb,oo+i,none⟩=some (.int .u8 ((rest.getD i 0).toNat:Int)))
 (ha:∀ bb' oo',some (⟨bb,oo,none⟩:Addr)=some ⟨bb',oo',none⟩→k < cap→a1=some ⟨bb',oo'+k,none⟩):Sl w (.slice a1 (m - k) (cap - k)) (rest.drop k):=by
 refine ⟨a1,cap - k,by rw [List.length_drop,hm],by rw [List.length_drop];omega,fun hne=>?_⟩
 have hlt:k < m:=by
  rcases Nat.lt_or_ge k m with h | h
  ·exact h
  ·exact absurd (List.drop_of_length_le (by omega)) hne
 refine ⟨bb,oo+k,ha bb oo rfl (by omega),hbb,fun i hi=>?_⟩
 rw [List.length_drop] at hi
 have:=hc (k+i) (by omega)
 rw [←Nat.add_assoc] at this
 rw [this]
 simp [List.getD_eq_getElem?_getD,List.getElem?_drop]
theorem Sl.below {w wr:World} {v:Value} {l:Lb8} (h:Sl w v l) (hb:Below w.heap.size w wr):Sl wr v l:=by
 obtain ⟨a,cap,e,hc,hr⟩:=h
 refine ⟨a,cap,e,hc,fun hne=>?_⟩
 obtain ⟨bb,oo,ea,hlt,hcell⟩:=hr hne
 exact ⟨bb,oo,ea,Nat.lt_of_lt_of_le hlt hb.size,fun i hi=>by rw [hb.cell (p:=⟨bb,oo+i,none⟩) hlt];exact hcell i hi⟩
def OwnB (w:World) (B:Nat) (v:Value) (l:Lb8):Prop:=w.ownsRow B 5 1 v l.length (u8s l)
theorem infoU8:(Tryz.prog.info? 5).map (fun i=>(i.zero,i.size,i.bytes))=some (some (.int .u8 0),1,1):=by kernel_rfl
theorem OwnB.nil (w:World) (B:Nat):OwnB w B (.slice none 0 0) []:=World.ownsRow_nil w B _ 1
theorem OwnB.open {w:World} {B:Nat} {v:Value} {l:Lb8} (h:OwnB w B v l):∃ a cap,v=.slice a l.length cap∧l.length≤cap ∧
 (l≠[]→∃ g,a=some ⟨g,0,none⟩∧B≤g∧g < w.heap.size∧∀ i,i < l.length→w.cell? ⟨g,i,none⟩=some (.int .u8 ((l.getD i 0).toNat:Int))):=by
 obtain ⟨_,h | ⟨g,cap,cur,rfl,hg,hh,hn,hc,hs,ht⟩⟩:=h
 ·obtain ⟨rfl,h0⟩:=h
  exact ⟨none,0,by rw [h0],by omega,fun hne=>absurd (List.eq_nil_of_length_eq_zero h0) hne⟩
 ·refine ⟨_,cap,rfl,hn,fun _=>⟨g,rfl,hg,(Array.getElem?_eq_some_iff.1 hh).1,fun i hi=>?_⟩⟩
  rw [cell_of_row w g i cur _ (0,0) hh]
  have h1:(cur.toList.take (l.length*1))[i]?=(u8s l)[i]?:=by rw [ht]
  rw [List.getElem?_take,if_pos (by omega)] at h1
  rw [←Array.getElem?_toList,h1,u8s_get l i hi]
theorem OwnB.sl {w:World} {B:Nat} {v:Value} {l:Lb8} (h:OwnB w B v l):Sl w v l:=by
 obtain ⟨a,cap,rfl,hc,hr⟩:=h.open
 refine ⟨a,cap,rfl,hc,fun hne=>?_⟩
 obtain ⟨g,ea,_,hlt,hcell⟩:=hr hne
 exact ⟨g,0,ea,hlt,fun i hi=>by rw [Nat.zero_add];exact hcell i hi⟩
theorem OwnB.keep {w w':World} {B:Nat} {v:Value} {l:Lb8} (h:OwnB w B v l) (hk:∀ g,v.ownBlock=some g→w'.heap[g]?=w.heap[g]?):OwnB w' B v l:=by
 refine ⟨h.1,?_⟩
 rcases h.2 with hn | ⟨g,cap,cur,rfl,hg,hh,hr⟩
 ·exact .inl hn
 ·exact .inr ⟨g,cap,cur,rfl,hg,by rw [hk g rfl];exact hh,hr⟩
theorem OwnB.lt {w:World} {B:Nat} {v:Value} {l:Lb8} (h:OwnB w B v l):∀ k,v.ownBlock=some k→B≤k∧k < w.heap.size:=World.ownsRow.lt h
theorem OwnB.below {w w':World} {B:Nat} {v:Value} {l:Lb8} (h:OwnB w B v l) (hb:Below w.heap.size w w'):OwnB w' B v l:=
 h.keep fun g hg=>hb.block g (h.lt g hg).2
theorem run_append_nil_src {w:World} {B:Nat} {v:Value} {l:Lb8} (h:OwnB w B v l) (ty:TypeId) (c:Nat):(Builtin.append_ #[40,40] ty #[v,.slice none 0 c]).run Tryz.prog w=.ok v w:=by
 obtain ⟨i0,hi,_,_,_⟩:=info_parts infoU8
 rcases h.2 with ⟨rfl,_⟩ | ⟨g,cap,cur,rfl,_,_,hn,_⟩
 ·simp [Builtin.append_,run_underlying Tryz.underlying40,sizeOf,typeInfo,hi,Builtin.lenOf,Builtin.firstCells]
 ·simp [Builtin.append_,run_underlying Tryz.underlying40,sizeOf,typeInfo,hi,Builtin.lenOf,Builtin.firstCells,hn,storeCells]
set_option maxRecDepth 10000 in
theorem run_append_bytes {w:World} {B:Nat} {v vx:Value} {l m:Lb8} (hown:OwnB w B v l) (hsl:Sl w vx m) (hlen:l.length+m.length≤140737488355328) (hB:B≤w.heap.size) (ty:TypeId) :
 ∃ v' w',(Builtin.append_ #[40,40] ty #[v,vx]).run Tryz.prog w=.ok v' w'∧OwnB w' B v' (l++m)∧w.grownBy w' v.ownBlock:=by
 obtain ⟨a0,cap,rfl,hc,hr⟩:=hsl
 obtain ⟨i0,hi,hz0,hz1,hz2⟩:=info_parts infoU8
 have hml:maxLen=281474976710656∨140737488355328≤maxLen:=.inr (by simp [maxLen])
 cases a0 with
 | none=>
  have hm:m=[]:=by
   rcases m with _ | ⟨x,m⟩
   ·rfl
   ·obtain ⟨_,_,h,_⟩:=hr (by simp)
    cases h
  subst hm
  exact ⟨v,w,run_append_nil_src hown ty cap,by simpa using hown,World.grownBy.refl w _⟩
 | some ad=>
  have hcells:∀ j u,(u8s m)[j]?=some u→w.cell? (ad.add j)=some u:=by
   intro j u hu
   have hj:j < m.length:=by
    have:=(List.getElem?_eq_some_iff.1 hu).1
    rwa [u8s_length] at this
   obtain ⟨bb,oo,e,_,hcell⟩:=hr (by intro e;rw [e] at hj;simp at hj)
   injection e with e
   subst e
   rw [Addr.add_mid,hcell j hj,←hu,u8s_get m j hj]
  have h1:∀ u∈u8s m,u.oneCell'=true:=by
   intro u hu
   obtain ⟨x,_,rfl⟩:=List.mem_map.1 hu
   rfl
  obtain ⟨v',w',hrun,h2,h3,_,_⟩:=run_append_own_at (P:=Tryz.prog) w B 40 ty 5 i0 (.int .u8 0) 1 1 Tryz.underlying40 hi hz0 hz1 hz2 rfl (by decide) v l.length (u8s l) hown ad m.length cap (u8s m) (by rw [u8s_length,Nat.mul_one]) hcells h1 (by rcases hml with h | h <;> omega) (by omega) hB
  refine ⟨v',w',hrun,?_,h3⟩
  unfold OwnB
  rw [List.length_append,show u8s (l++m)=u8s l++u8s m by simp [u8s]]
  exact h2
theorem wpList_append_bytes {w:World} {ops:Array Oper} {rest:List Oper} {o:Oper} {a:Act} {Q:Exit→Act→World→Prop} (hgd:o.guard=none) (s x:Operand)
 (ho:o.op=.call { callee:=.builtin .append,args:=#[s,x],argTypes:=#[40,40] }) (B:Nat) (v vx:Value) (l m:Lb8)
 (hs:a.eval s=v) (hown:OwnB w B v l) (hx:a.eval x=vx) (hsl:Sl w vx m) (hlen:l.length+m.length≤140737488355328) (hB:B≤w.heap.size)
 (h:∀ v' w',OwnB w' B v' (l++m)→(∀ k,k < w.heap.size→v.ownBlock≠some k→w'.heap[k]?=w.heap[k]?)→Below B w w'→wpList Tryz.prog ops Q rest (a.put o.dst v') w'):wpList Tryz.prog ops Q (o::rest) a w:=by
 refine wpList_plain hgd fun K hK=>?_
 obtain ⟨v',w',hrun,h2,h3⟩:=run_append_bytes hown hsl hlen hB o.type
 unfold Oper.wp execOp
 simp only [ho,resolve,invoke,builtin,Sem.run_bind,Sem.run_pure,Result.andThen_ok,List.map_toArray,List.map_cons,List.map_nil,hs,hx,hrun]
 exact hK _ _ (h v' w' h2 (fun k hk hne=>h3.block k hk (fun e=>hne e.symm)) ((Below.refl _ _).grown h3 hB (fun g hg=>(hown.lt g hg).1)))
theorem wpList_copy_sl {w:World} {ops:Array Oper} {rest:List Oper} {op:Oper} {a:Act} {Q:Exit→Act→World→Prop} (hgd:op.guard=none) (x y:Operand)
 (ho:op.op=.call { callee:=.builtin .copy,args:=#[x,y],argTypes:=#[40,40] }) (b o dLen dCap:Nat) (vy:Value) (l:Lb8) (hx:a.eval x=.slice (some ⟨b,o,none⟩) dLen dCap) (hy:a.eval y=vy) (hl:Sl w vy l)
 (k:Nat) (hk:k=Nat.min l.length dLen) (C:Array Value) (t:TypeId) (hC:At w b C t) (hfit:o+k≤C.size) (E:Array Value) (hE:Mem.splice C o (u8s (l.take k))=E)
 (h:∀ w',At w' b E t→w'.heap.size=w.heap.size→(∀ k,k≠b→w'.heap[k]?=w.heap[k]?)→(∀ B a,Below B a w→B≤b→Below B a w')→wpList Tryz.prog ops Q rest (a.put op.dst (.int .i64 (k:Int))) w'):wpList Tryz.prog ops Q (op::rest) a w:=by
 obtain ⟨a0,cap,rfl,_,hr⟩:=hl
 have hkl:k≤l.length:=by rw [hk];exact Nat.min_le_left _ _
 have hlen:(u8s (l.take k)).length=k:=by rw [u8s_length,List.length_take];omega
 by_cases h0:k=0
 ·subst h0
  refine wpList_copy_nothing hgd x y _ _ ho 5 Tryz.underlying40 infoB (some ⟨b,o,none⟩) a0 dLen dCap l.length cap hx hy hk.symm ?_
  have hEC:E=C:=by rw [←hE];simp [Mem.splice,u8s]
  rw [hEC] at h
  exact h w hC rfl (fun _ _=>rfl) (fun _ _ hb _=>hb)
 ·obtain ⟨bb,oo,rfl,_,hc⟩:=hr (by intro e;rw [e] at hkl;simp at hkl;omega)
  refine wpList_copy_at hgd x y _ _ ho 5 Tryz.underlying40 infoB b o dLen dCap ⟨bb,oo,none⟩ l.length cap hx hy (u8s (l.take k)) (by rw [hlen];exact hk) (fun j v hj=>?_) (fun v hv=>?_) C t hC (by rw [hlen];exact hfit) E hE k hlen h
  ·have hjk:j < k:=by
    have:=(List.getElem?_eq_some_iff.1 hj).1
    rwa [hlen] at this
   rw [Addr.add_mid,hc j (by omega),←hj,u8s_get _ _ (by rw [List.length_take];omega)]
   simp [List.getD_eq_getElem?_getD,hjk]
  ·obtain ⟨_,_,rfl⟩:=List.mem_map.1 hv
   rfl
theorem ownV_B {w:World} {B:Nat} {v:Value} {l:Lb8} (h:OwnV w B 5 v (u8s l)):OwnB w B v l:=by
 unfold OwnV at h
 rw [u8s_length] at h
 exact h
theorem ownB_V {w:World} {B:Nat} {v:Value} {l:Lb8} (h:OwnB w B v l):OwnV w B 5 v (u8s l):=by
 unfold OwnV
 rw [u8s_length]
 exact h
theorem elemB8:elemB Tryz.prog 40 5 (.int .u8 0) 1:=⟨Tryz.underlying40,infoU8⟩
def PadEnd (w:World) (T:Lb8) (e:Ending) (w':World):Prop:=∃ v,e=.returned v∧OwnB w' w.heap.size v T∧Below w.heap.size w w'
theorem at_sl {w:World} {b n:Nat} {l:Lb8} {t:TypeId} (h:At w b (u8s l).toArray t) (hn:l.length=n):Sl w (.slice (some ⟨b,0,none⟩) n n) l:=by
 subst hn
 refine ⟨_,_,rfl,Nat.le_refl _,fun _=>⟨b,0,rfl,h.lt,fun i hi=>?_⟩⟩
 rw [Nat.zero_add,h.cell,List.getElem?_toArray,u8s_get l i hi]
theorem sl_at {w:World} {a:Option Addr} {cap:Nat} {l:Lb8} (h:Sl w (.slice a l.length cap) l) {i:Nat} (hi:i < l.length) :
 ∃ b o,a=some ⟨b,o,none⟩∧w.cell? ⟨b,o+i,none⟩=some (.int .u8 (B8 (l.getD i 0))):=by
 obtain ⟨a',cap',e,_,hr⟩:=h
 injection e with e1 _ _
 obtain ⟨b,o,ea,_,hc⟩:=hr (by intro e;rw [e] at hi;simp at hi)
 exact ⟨b,o,by rw [e1];exact ea,hc i hi⟩
theorem own_full {w:World} {B g n:Nat} {e:TypeId} {xs:List Value} (h:w.ownsRow B e 1 (.slice (some ⟨g,0,none⟩) n n) n xs):At w g xs.toArray e:=by
 obtain ⟨hl,h | ⟨g',cap,cur,e1,_,hh,_,_,hc,ht⟩⟩:=h
 ·cases h.1
 ·injection e1 with e1 _ e2
  injection e1 with e1
  injection e1 with e1
  subst e1;subst e2
  have:cur=xs.toArray:=by
   rw [←ht,List.take_of_length_le (by simp [hc])]
  rw [←this];exact hh
theorem made_zeros (n:Nat):(madeCells (Value.int .u8 0).cells (n*1)).toList=u8s (List.replicate n 0):=by
 rw [madeCells,Nat.mul_one]
 apply List.ext_getElem
 ·simp [u8s]
 ·intro i h1 h2
  simp [u8s,Value.cells,Nat.mod_one]
theorem infoDg:(Tryz.prog.info? 26).map (·.size)=some 32:=by kernel_rfl
theorem sizeB1 (w:World):(sizeOf 5).run Tryz.prog w=.ok 1 w:=by kernel_rfl
set_option maxRecDepth 10000 in
theorem eq32 (d:Nat) (l m:Lb8) (hl:l.length=32) (hm:m.length=32) (w:World):(Op.equalIn (d+2) 26 (.agg (u8s l).toArray) (.agg (u8s m).toArray)).run Tryz.prog w=.ok (l == m) w:=by
 have e1:∀ k:Lb8,u8s k=(k.map fun x=>(x.toNat:Int)).map (Value.int .u8):=fun k=>by simp [u8s]
 have h:=run_equalIn_ints (P:=Tryz.prog) w d 26 5 .u8 32 Tryz.underlying26 Tryz.underlying5 sizeB1 (l.map fun x=>(x.toNat:Int)) (m.map fun x=>(x.toNat:Int)) (by simpa using hl) (by simpa using hm)
 rw [e1,e1,h]
 congr 1
 rw [Bool.eq_iff_iff,beq_iff_eq,beq_iff_eq]
 exact (List.map_inj_right (fun a b h=>by apply BitVec.eq_of_toNat_eq;omega)).trans Iff.rfl
theorem neqDg (l m:Lb8) (hl:l.length=32) (hm:m.length=32) (x y:Operand) (w:World):(do eqGuard .neq 26 x y (.agg (u8s l).toArray) (.agg (u8s m).toArray);binOp .neq 26 (.agg (u8s l).toArray) (.agg (u8s m).toArray):Sem Value).run Tryz.prog w=.ok (.bool (!(l == m))) w:=by
 rw [Sem.run_bind,run_eqGuard_agg w .neq 26 x y _ _ (by kernel_rfl),Result.andThen_ok,run_neq_struct,eq32 9998 l m hl hm w];rfl
end Sha
end Go.Proofs.YtddjdaocdfkgeaaGreatDoor
namespace Go.Proofs.YtddjdaocdfkgeaaGreatDoor
namespace Sha
structure Q4 where
 a:BitVec 32
 b:BitVec 32
 c:BitVec 32
 d:BitVec 32
def Q4.list (q:Q4):List (BitVec 32):=[q.a,q.b,q.c,q.d]
def q4 (l:List (BitVec 32)):Q4:=⟨l.getD 0 0,l.getD 1 0,l.getD 2 0,l.getD 3 0⟩
def qa1 (q:Q4):BitVec 32:=q.a+q.b
def qd1 (q:Q4):BitVec 32:=(q.d ^^^ qa1 q).rotateLeft 16
def qc1 (q:Q4):BitVec 32:=q.c+qd1 q
def qb1 (q:Q4):BitVec 32:=(q.b ^^^ qc1 q).rotateLeft 12
def qa2 (q:Q4):BitVec 32:=qa1 q+qb1 q
def qd2 (q:Q4):BitVec 32:=(qd1 q ^^^ qa2 q).rotateLeft 8
def qc2 (q:Q4):BitVec 32:=qc1 q+qd2 q
def qb2 (q:Q4):BitVec 32:=(qb1 q ^^^ qc2 q).rotateLeft 7
def qr (q:Q4):Q4:=⟨qa2 q,qb2 q,qc2 q,qd2 q⟩
def kb1 (q:Q4):BitVec 32:=q.b.rotateLeft 25 ^^^ q.c
def kd1 (q:Q4):BitVec 32:=q.d.rotateLeft 24 ^^^ q.a
def ka1 (q:Q4):BitVec 32:=q.a - kb1 q
def kd0 (q:Q4):BitVec 32:=(kd1 q).rotateLeft 16 ^^^ ka1 q
def qat (w:List (BitVec 32)) (i j k l:Nat):List (BitVec 32):=
 (((w.set i (qr ⟨w.getD i 0,w.getD j 0,w.getD k 0,w.getD l 0⟩).a).set j (qr ⟨w.getD i 0,w.getD j 0,w.getD k 0,w.getD l 0⟩).b).set k (qr ⟨w.getD i 0,w.getD j 0,w.getD k 0,w.getD l 0⟩).c).set l (qr ⟨w.getD i 0,w.getD j 0,w.getD k 0,w.getD l 0⟩).d
theorem qat_length (w:List (BitVec 32)) (i j k l:Nat):(qat w i j k l).length=w.length:=by simp [qat]
def plc:List (List Nat):=[[0,4,8,12],[1,5,9,13],[2,6,10,14],[3,7,11,15],[0,5,10,15],[1,6,11,12],[2,7,8,13],[3,4,9,14]]
def qpl (w:List (BitVec 32)) (p:List Nat):List (BitVec 32):=qat w (p.getD 0 0) (p.getD 1 0) (p.getD 2 0) (p.getD 3 0)
def some8 (w:List (BitVec 32)) (m:Nat):List (BitVec 32):=(plc.take m).foldl qpl w
def all8 (w:List (BitVec 32)):Nat→List (BitVec 32)
 | 0=>w
 | n+1=>some8 (all8 w n) 8
theorem some8_next (w:List (BitVec 32)) (m:Nat) (h:m < 8):some8 w (m+1)=qpl (some8 w m) (plc.getD m []):=by
 have hm:m < plc.length:=h
 unfold some8
 rw [List.take_succ_eq_append_getElem hm,List.foldl_append]
 simp [hm]
theorem some8_length (w:List (BitVec 32)):∀ m,m≤8→(some8 w m).length=w.length
 | 0,_=>rfl
 | m+1,h=>by rw [some8_next w m (by omega),qpl,qat_length,some8_length w m (by omega)]
theorem all8_length (w:List (BitVec 32)):∀ n,(all8 w n).length=w.length
 | 0=>rfl
 | n+1=>by rw [all8,some8_length _ 8 (by decide),all8_length w n]
def le4 (x:BitVec 32):List (BitVec 8):=[wb x 0,wb x 8,wb x 16,wb x 24]
def lew (b:List (BitVec 8)) (i:Nat):BitVec 32:=
 (b.getD (4*i+3) 0).setWidth 32 <<< 24 ||| (b.getD (4*i+2) 0).setWidth 32 <<< 16 ||| (b.getD (4*i+1) 0).setWidth 32 <<< 8 ||| (b.getD (4*i) 0).setWidth 32
def cfirst (key nonce:List (BitVec 8)) (n:BitVec 32):List (BitVec 32):=
 [1634760805,857760878,2036477234,1797285236]++(List.range 8).map (lew key)++[n]++(List.range 3).map (lew nonce)
theorem cfirst_length (key nonce:List (BitVec 8)) (n:BitVec 32):(cfirst key nonce n).length=16:=by simp [cfirst]
def cwords (key nonce:List (BitVec 8)) (n:BitVec 32):List (BitVec 32):=adds (all8 (cfirst key nonce n) 10) (cfirst key nonce n)
def cByte (l:List (BitVec 32)) (i:Nat):BitVec 8:=wb (l.getD (i / 4) 0) (8*(i % 4))
def cblk (key nonce:List (BitVec 8)) (n:BitVec 32):List (BitVec 8):=(List.range 64).map (cByte (cwords key nonce n))
theorem cblk_length (key nonce:List (BitVec 8)) (n:BitVec 32):(cblk key nonce n).length=64:=by simp [cblk]
def cblks (key nonce:List (BitVec 8)) (n:BitVec 32):Nat→List (BitVec 8)
 | 0=>[]
 | j+1=>cblks key nonce n j++cblk key nonce (n+BitVec.ofNat 32 j)
theorem cblks_length (key nonce:List (BitVec 8)) (n:BitVec 32):∀ j,(cblks key nonce n j).length=64*j
 | 0=>rfl
 | j+1=>by rw [cblks,List.length_append,cblks_length key nonce n j,cblk_length];omega
theorem cblks_more (key nonce:List (BitVec 8)) (n:BitVec 32) (j:Nat):∀ i,(cblks key nonce n (j+i)).take (64*j)=cblks key nonce n j
 | 0=>by rw [Nat.add_zero,List.take_of_length_le (by rw [cblks_length];omega)]
 | i+1=>by rw [←Nat.add_assoc,cblks,List.take_append_of_le_length (by rw [cblks_length];omega),cblks_more key nonce n j i]
def cstream (key nonce:List (BitVec 8)) (n:BitVec 32) (size:Nat):List (BitVec 8):=(cblks key nonce n ((size+63) / 64)).take size
theorem cstream_length (key nonce:List (BitVec 8)) (n:BitVec 32) (size:Nat):(cstream key nonce n size).length=size:=by
 rw [cstream,List.length_take,cblks_length];omega
theorem cstream_from (key nonce:List (BitVec 8)) (n:BitVec 32) (size j:Nat) (h:size≤64*j):(cblks key nonce n j).take size=cstream key nonce n size:=by
 have hc:(size+63) / 64≤j:=by omega
 obtain ⟨i,rfl⟩:∃ i,j=(size+63) / 64+i:=⟨j - (size+63) / 64,by omega⟩
 have e:=cblks_more key nonce n ((size+63) / 64) i
 rw [cstream,←e,List.take_take]
 congr 1
 omega
def cturn (b s:List (BitVec 8)):List (BitVec 8):=List.zipWith (· ^^^ ·) b s++b.drop s.length
theorem cturn_length (b s:List (BitVec 8)) (h:s.length≤b.length):(cturn b s).length=b.length:=by
 simp [cturn];omega
theorem zip_back:∀ b s:List (BitVec 8),s.length≤b.length→List.zipWith (· ^^^ ·) (List.zipWith (· ^^^ ·) b s) s=b.take s.length
 | b,[],_=>by simp
 | [],_::_,h=>by simp at h
 | x::b,y::s,h=>by
  simp only [List.length_cons] at h
  simp only [List.zipWith_cons_cons,List.length_cons,List.take_succ_cons,zip_back b s (by omega)]
  rw [BitVec.xor_assoc,BitVec.xor_self,BitVec.xor_zero]
theorem cturn_back (b s:List (BitVec 8)) (h:s.length≤b.length):cturn (cturn b s) s=b:=by
 have hz:(List.zipWith (· ^^^ ·) b s:List (BitVec 8)).length=s.length:=by simp;omega
 have h1:List.zipWith (· ^^^ ·) (cturn b s) s=b.take s.length:=by
  rw [←zip_back b s h,cturn]
  have:List.zipWith (· ^^^ ·) (List.zipWith (· ^^^ ·) b s++b.drop s.length) (s++[])=List.zipWith (· ^^^ ·) (List.zipWith (· ^^^ ·) b s) s++List.zipWith (· ^^^ ·) (b.drop s.length) []:=List.zipWith_append hz
  simpa using this
 have h2:(cturn b s).drop s.length=b.drop s.length:=by
  unfold cturn
  rw [List.drop_append,hz,Nat.sub_self,List.drop_zero,List.drop_of_length_le (by rw [hz];exact Nat.le_refl _),List.nil_append]
 rw [cturn,h1,h2,List.take_append_drop]
def wb64 (x:BitVec 64) (k:Nat):BitVec 8:=(x >>> k).setWidth 8
def cnonce (e:BitVec 32) (b:BitVec 64):List (BitVec 8):=(List.range 4).map (fun i=>wb e (8*i))++(List.range 8).map fun i=>wb64 b (8*i)
theorem cnonce_length (e:BitVec 32) (b:BitVec 64):(cnonce e b).length=12:=by simp [cnonce]
end Sha
end Go.Proofs.YtddjdaocdfkgeaaGreatDoor
namespace Go.Proofs.YtddjdaocdfkgeaaGreatDoor
namespace Sha
open Go.RowKit Mem
structure RefV where
 pl:Int
 ep:BitVec 32
 dg:Lb8
structure RefV.Wf (r:RefV):Prop where
 p0:-9223372036854775808≤r.pl
 p1:r.pl≤9223372036854775807
 dg:r.dg.length=32
def refL (r:RefV):List Value:=[.int .i64 r.pl,.int .u32 (V r.ep)]++u8s r.dg
def refC (r:RefV):Array Value:=(refL r).toArray
theorem refC_size {r:RefV} (h:r.Wf):(refC r).size=34:=by simp [refC,refL,u8s_length,h.dg]
theorem refC_one (r:RefV):(refC r).all (·.oneCell')=true:=by
 rw [Array.all_eq_true]
 intro i hi
 have hm:(refC r)[i]∈refL r:=by
  have h:(refC r)[i]∈refC r:=Array.getElem_mem hi
  exact Array.mem_toList_iff.2 h
 generalize (refC r)[i]=u at hm
 simp only [refL,List.mem_append,List.mem_cons,List.not_mem_nil,or_false] at hm
 rcases hm with (rfl | rfl) | hm
 all_goals first | rfl | exact u8s_cells _ _ hm
theorem ref0 (r:RefV):(refC r)[0]?=some (.int .i64 r.pl):=by simp [refC,refL]
theorem ref1 (r:RefV):(refC r)[1]?=some (.int .u32 (V r.ep)):=by simp [refC,refL]
theorem ref_dg {r:RefV} (h:r.Wf) (i:Nat) (hi:i < 32):(refC r)[2+i]?=some (.int .u8 ((r.dg.getD i 0).toNat:Int)):=by
 have e:=u8s_get r.dg i (by rw [h.dg];exact hi)
 rw [←e]
 simp only [refC,refL,List.getElem?_toArray]
 rw [List.getElem?_append_right (by simp)]
 simp
theorem ref_dgRow {r:RefV} (h:r.Wf):(refC r).extract 2 (2+32)=(u8s r.dg).toArray:=by
 apply Array.ext'
 simp [refC,refL]
 exact List.take_of_length_le (by rw [u8s_length,h.dg];exact Nat.le_refl _)
def zref:RefV:=⟨0,0,List.replicate 32 0⟩
theorem zref_wf:zref.Wf:=⟨by decide,by decide,by decide⟩
theorem V_inj {x y:BitVec 32} (h:V x=V y):x=y:=by
 apply BitVec.eq_of_toNat_eq
 have:(x.toNat:Int)=(y.toNat:Int):=h
 omega
def sameRef (a b:RefV):Bool:=(a.pl == b.pl) && ((V a.ep == V b.ep) && (a.dg == b.dg))
theorem sameRef_iff (a b:RefV):sameRef a b=true ↔ a=b:=by
 obtain ⟨p,e,d⟩:=a
 obtain ⟨p',e',d'⟩:=b
 simp only [sameRef,Bool.and_eq_true,beq_iff_eq,RefV.mk.injEq]
 exact ⟨fun ⟨h1,h2,h3⟩=>⟨h1,V_inj h2,h3⟩,fun ⟨h1,h2,h3⟩=>⟨h1,by rw [h2],h3⟩⟩
theorem sameRef_self (a:RefV):sameRef a a=true:=(sameRef_iff a a).2 rfl
def layRf (r:RefV):Lb8:=[BitVec.ofInt 8 r.pl]++le4 r.ep++r.dg
theorem layRf_length {r:RefV} (h:r.Wf):(layRf r).length=37:=by simp [layRf,le4,h.dg]
def rfOf (b:Lb8):RefV:=⟨((b.getD 0 0).toNat:Int),lew (b.drop 1) 0,b.drop 5⟩
theorem rfOf_wf (b:Lb8) (h:b.length=37):(rfOf b).Wf:=by
 have:=(b.getD 0 0).isLt
 exact ⟨by show _≤((b.getD 0 0).toNat:Int);omega,by show ((b.getD 0 0).toNat:Int)≤_;omega,by simp [rfOf,h]⟩
def parseRf (b:Lb8):RefV × Int:=if b.length≠37∨1 < (b.getD 0 0).toNat then (zref,1) else (rfOf b,0)
theorem lew_le4 (x:BitVec 32) (t:Lb8):lew (le4 x++t) 0=x:=by
 simp only [lew,le4,List.cons_append,List.nil_append,Nat.mul_zero,Nat.zero_add,List.getD_cons_zero,List.getD_cons_succ,wb]
 apply BitVec.eq_of_getLsbD_eq
 intro i hi
 simp only [BitVec.getLsbD_or,BitVec.getLsbD_shiftLeft,BitVec.getLsbD_setWidth,BitVec.getLsbD_ushiftRight]
 rcases (by omega:i < 8∨(8≤i∧i < 16)∨(16≤i∧i < 24)∨24≤i) with h | h | h | h
 ·simp [hi,h,show i < 24 by omega,show i < 16 by omega]
 ·simp [hi,show ¬ i < 8 by omega,show i < 24 by omega,show i < 16 by omega,show i - 8 < 8 by omega,show i - 8 < 32 by omega,show 8+(i - 8)=i by omega]
 ·simp [hi,show ¬ i < 8 by omega,show i < 24 by omega,show ¬ i < 16 by omega,show ¬ i - 8 < 8 by omega,show i - 16 < 8 by omega,show i - 16 < 32 by omega,show 16+(i - 16)=i by omega]
 ·simp [hi,show ¬ i < 8 by omega,show ¬ i < 24 by omega,show ¬ i < 16 by omega,show ¬ i - 8 < 8 by omega,show ¬ i - 16 < 8 by omega,show i - 24 < 8 by omega,show i - 24 < 32 by omega,show 24+(i - 24)=i by omega]
theorem le4_lew (a b c d:BitVec 8) (t:Lb8):le4 (lew (a::b::c::d::t) 0)=[a,b,c,d]:=by
 have key:∀ (k:Nat) (z:BitVec 8),(∀ i,i < 8→(lew (a::b::c::d::t) 0).getLsbD (k+i)=z.getLsbD i)→wb (lew (a::b::c::d::t) 0) k=z:=by
  intro k z h
  apply BitVec.eq_of_getLsbD_eq
  intro i hi
  rw [wb,BitVec.getLsbD_setWidth,BitVec.getLsbD_ushiftRight]
  simp [hi,h i hi]
 have z8:∀ (y:BitVec 8) (i:Nat),8≤i→y.getLsbD i=false:=fun y i h=>BitVec.getLsbD_of_ge y i h
 have hl:∀ i,(lew (a::b::c::d::t) 0).getLsbD i=(((decide (i < 32) && !decide (i < 24) && (decide (i - 24 < 32) && d.getLsbD (i - 24))) || (decide (i < 32) && !decide (i < 16) && (decide (i - 16 < 32) && c.getLsbD (i - 16)))) || (decide (i < 32) && !decide (i < 8) && (decide (i - 8 < 32) && b.getLsbD (i - 8)))
  || (decide (i < 32) && a.getLsbD i)):=by
  intro i
  simp only [lew,Nat.mul_zero,Nat.zero_add,List.getD_cons_zero,List.getD_cons_succ,BitVec.getLsbD_or,BitVec.getLsbD_shiftLeft,BitVec.getLsbD_setWidth]
 simp only [le4]
 rw [key 0 a,key 8 b,key 16 c,key 24 d]
 ·intro i hi
  rw [hl]
  simp [show 24+i < 32 by omega,show ¬ 24+i < 24 by omega,show ¬ 24+i < 16 by omega,show ¬ 24+i < 8 by omega,show 24+i - 24=i by omega,z8 c (24+i - 16) (by omega),z8 b (24+i - 8) (by omega),z8 a (24+i) (by omega),show i < 32 by omega]
 ·intro i hi
  rw [hl]
  simp [show 16+i < 32 by omega,show 16+i < 24 by omega,show ¬ 16+i < 16 by omega,show ¬ 16+i < 8 by omega,show 16+i - 16=i by omega,z8 b (16+i - 8) (by omega),z8 a (16+i) (by omega),show i < 32 by omega]
 ·intro i hi
  rw [hl]
  simp [show 8+i < 32 by omega,show 8+i < 24 by omega,show 8+i < 16 by omega,show ¬ 8+i < 8 by omega,show 8+i - 8=i by omega,show i < 32 by omega]
 ·intro i hi
  rw [hl]
  simp [hi,show i < 32 by omega,show i < 24 by omega,show i < 16 by omega]
def SEnd (w:World) (L:Lb8) (e:Ending) (w':World):Prop:=
 ∃ g,e=.returned (.slice (some ⟨g,0,none⟩) L.length L.length)∧At w' g (u8s L).toArray 5∧w.heap.size≤g∧Below w.heap.size w w'
def RSEnd (w:World) (L:Lb8) (e:Ending) (w':World):Prop:=∃ v,e=.returned v∧Sl w' v L∧Below w.heap.size w w'
theorem sl_none (w:World):Sl w (.slice none 0 0) []:=⟨none,0,rfl,by simp,fun h=>absurd rfl h⟩
def rowZ (l:Lb8) (n i:Nat):Lb8:=l.take i++List.replicate (n - i) 0
theorem rowZ_length (l:Lb8) (n i:Nat) (hl:l.length=n) (h:i≤n):(rowZ l n i).length=n:=by simp [rowZ,hl];omega
theorem rowZ_set (l:Lb8) (n i:Nat) (hl:l.length=n) (h:i < n):(rowZ l n i).set i (l.getD i 0)=rowZ l n (i+1):=by
 unfold rowZ
 have hi:i < l.length:=by omega
 rw [List.set_append_right _ _ (by rw [List.length_take];omega),List.length_take,Nat.min_eq_left (by omega),Nat.sub_self,show n - i=(n - (i+1))+1 by omega,List.replicate_succ,List.set_cons_zero,List.take_succ_eq_append_getElem hi,List.append_assoc]
 simp [List.getD_eq_getElem?_getD,hi]
theorem rowZ_all (l:Lb8) (n:Nat) (hl:l.length=n):rowZ l n n=l:=by
 unfold rowZ
 rw [List.take_of_length_le (by omega)]
 simp
end Sha
end Go.Proofs.YtddjdaocdfkgeaaGreatDoor
namespace Go.Proofs.YtddjdaocdfkgeaaGreatDoor
namespace Mem
open Go.RowKit
abbrev Foot:=Nat→Prop
structure Chg (F:Foot) (w w':World):Prop where
 os:w'.os=w.os
 tape:w'.tape=w.tape
 output:w'.output=w.output
 size:w.heap.size≤w'.heap.size
 block:∀ k,k < w.heap.size→¬ F k→w'.heap[k]?=w.heap[k]?
theorem Chg.refl (F:Foot) (w:World):Chg F w w:=⟨rfl,rfl,rfl,Nat.le_refl _,fun _ _ _=>rfl⟩
theorem Chg.of_below {F:Foot} {w w':World} (h:Below w.heap.size w w'):Chg F w w':=⟨h.os,h.tape,h.output,h.size,fun k hk _=>h.block k hk⟩
theorem Chg.trans {F F1:Foot} {w w1 w2:World} (h:Chg F w w1) (k:Chg F1 w1 w2) (hs:∀ x,F1 x→F x∨w.heap.size≤x):Chg F w w2:=
 ⟨k.os.trans h.os,k.tape.trans h.tape,k.output.trans h.output,Nat.le_trans h.size k.size,fun x hx hn=>(k.block x (Nat.lt_of_lt_of_le hx h.size) (fun h1=>(hs x h1).elim hn (fun h2=>by omega))).trans (h.block x hx hn)⟩
theorem Chg.mono {F G:Foot} {w w':World} (h:Chg F w w') (hs:∀ x,F x→G x∨w.heap.size≤x):Chg G w w':=
 ⟨h.os,h.tape,h.output,h.size,fun x hx hn=>h.block x hx (fun h1=>(hs x h1).elim hn (fun h2=>by omega))⟩
theorem Chg.below {F:Foot} {B:Nat} {x w w':World} (h:Chg F w w') (hb:Below B x w) (hF:∀ k,F k→B≤k) (hB:B≤w.heap.size):Below B x w':=
 ⟨h.os.trans hb.os,h.tape.trans hb.tape,h.output.trans hb.output,Nat.le_trans hb.size h.size,fun k hk=>(h.block k (Nat.lt_of_lt_of_le hk hB) (fun h1=>by have:=hF k h1;omega)).trans (hb.block k hk)⟩
theorem Chg.drew {F:Foot} {w w':World} (h:Chg F w w'):Chg F w w'.drew:=⟨h.os,h.tape,h.output,h.size,h.block⟩
theorem At.chg {F:Foot} {w w':World} {b:Nat} {C:Array Value} {t:TypeId} (h:At w b C t) (hc:Chg F w w') (hn:¬ F b):At w' b C t:=by
 have hl:=h.lt
 unfold At at *
 rw [hc.block b hl hn];exact h
def grow (F:Foot) (w w':World):Foot:=fun k=>(F k∨w.heap.size≤k)∧k < w'.heap.size
theorem grow_ext {F:Foot} {w w':World}:∀ k,grow F w w' k→F k∨w.heap.size≤k:=fun _ h=>h.1
theorem grow_lt {F:Foot} {w w':World}:∀ k,grow F w w' k→k < w'.heap.size:=fun _ h=>h.2
def SlR (F:Foot) (w:World) (z:Nat) (v:Value) (n:Nat) (xs:List Value):Prop:=
 xs.length=n*z∧∃ a cap,v=.slice a n cap∧n≤cap∧(n≠0→∃ bb oo,a=some ⟨bb,oo,none⟩∧F bb∧bb < w.heap.size∧∀ (j:Nat) u,xs[j]?=some u→w.cell? ⟨bb,oo+j,none⟩=some u)
theorem SlR.nil (F:Foot) (w:World) (z:Nat):SlR F w z (.slice none 0 0) 0 []:=⟨by simp,none,0,rfl,Nat.le_refl _,fun h=>absurd rfl h⟩
theorem SlR.keep {F:Foot} {w w':World} {z n:Nat} {v:Value} {xs:List Value} (h:SlR F w z v n xs) (hs:w.heap.size≤w'.heap.size) (hk:∀ k,F k→k < w.heap.size→w'.heap[k]?=w.heap[k]?):SlR F w' z v n xs:=by
 obtain ⟨hl,a,cap,e,hc,hr⟩:=h
 refine ⟨hl,a,cap,e,hc,fun hne=>?_⟩
 obtain ⟨bb,oo,ea,hF,hlt,hcell⟩:=hr hne
 exact ⟨bb,oo,ea,hF,Nat.lt_of_lt_of_le hlt hs,fun j u hu=>by rw [World.cell?_of_block (w:=w) (w':=w') (a:=⟨bb,oo+j,none⟩) (hk bb hF hlt)];exact hcell j u hu⟩
theorem SlR.mono {F G:Foot} {w:World} {z n:Nat} {v:Value} {xs:List Value} (h:SlR F w z v n xs) (hs:∀ k,F k→k < w.heap.size→G k):SlR G w z v n xs:=by
 obtain ⟨hl,a,cap,e,hc,hr⟩:=h
 refine ⟨hl,a,cap,e,hc,fun hne=>?_⟩
 obtain ⟨bb,oo,ea,hF,hlt,hcell⟩:=hr hne
 exact ⟨bb,oo,ea,hs bb hF hlt,hlt,hcell⟩
theorem SlR.below {F:Foot} {w w':World} {z n:Nat} {v:Value} {xs:List Value} (h:SlR F w z v n xs) (hb:Below w.heap.size w w'):SlR F w' z v n xs:=
 h.keep hb.size fun k _ hk=>hb.block k hk
theorem slR_at {F:Foot} {w:World} {z n cap:Nat} {a:Option Addr} {xs:List Value} (h:SlR F w z (.slice a n cap) n xs) {i:Nat} (hi:i < n) :
 ∃ b o,a=some ⟨b,o,none⟩∧F b∧∀ j,j < z→w.cell? ⟨b,o+(z*i+j),none⟩=xs[z*i+j]?:=by
 obtain ⟨hl,a',cap',e,_,hr⟩:=h
 injection e with e1 _ _
 obtain ⟨b,o,ea,hF,_,hc⟩:=hr (by omega)
 refine ⟨b,o,by rw [e1];exact ea,hF,fun j hj=>?_⟩
 have hlt:z*i+j < xs.length:=by
  rw [hl]
  have:z*i+z≤n*z:=by rw [←Nat.mul_succ,Nat.mul_comm];exact Nat.mul_le_mul_right z hi
  omega
 rw [List.getElem?_eq_getElem hlt]
 exact hc _ _ (List.getElem?_eq_getElem hlt)
def elemR (P:Program) (t e:TypeId) (zv:Value) (z bytes:Nat):Prop:=P.underlying t=some (.slice e)∧(P.info? e).map (fun i=>(i.zero,i.size,i.bytes))=some (some zv,z,bytes)
def RdR (w:World) (z:Nat) (v:Value) (n:Nat) (xs:List Value):Prop:=xs.length=n*z∧∃ a cap,v=.slice a n cap∧(n≠0→∃ p,a=some p∧∀ i u,xs[i]?=some u→w.cell? (p.add i)=some u)
theorem SlR.rd {F:Foot} {w:World} {z n:Nat} {v:Value} {xs:List Value} (h:SlR F w z v n xs):RdR w z v n xs:=by
 obtain ⟨hl,a,cap,e,_,hr⟩:=h
 refine ⟨hl,a,cap,e,fun hne=>?_⟩
 obtain ⟨bb,oo,ea,_,_,hc⟩:=hr hne
 exact ⟨_,ea,fun i u hu=>by rw [Addr.add_mid];exact hc i u hu⟩
theorem rdR_new {w:World} {e:TypeId} {C:Array Value}:RdR (w.alloc (.cells C e)) C.size (.slice (some ⟨w.heap.size,0,none⟩) 1 1) 1 C.toList:=
 ⟨by simp,_,_,rfl,fun _=>⟨_,rfl,fun i u hu=>by rw [Addr.add_mid,Nat.zero_add,(at_new w C e).cell,←hu,Array.getElem?_toList]⟩⟩
theorem ownsRow_slR {w:World} {B:Nat} {e:TypeId} {z n:Nat} {v:Value} {xs:List Value} (h:w.ownsRow B e z v n xs):SlR (fun k=>B≤k) w z v n xs:=by
 obtain ⟨hl,h | ⟨g,cap,cur,rfl,hg,hh,hn,hc,hs,ht⟩⟩:=h
 ·obtain ⟨rfl,rfl⟩:=h
  have:xs=[]:=List.eq_nil_of_length_eq_zero (by simpa using hl)
  subst this
  exact SlR.nil _ _ _
 ·refine ⟨hl,_,cap,rfl,hn,fun _=>⟨g,0,rfl,hg,(Array.getElem?_eq_some_iff.1 hh).1,fun j u hu=>?_⟩⟩
  have hi:=(List.getElem?_eq_some_iff.1 hu).1
  rw [Nat.zero_add,cell_of_row w g j cur _ (0,0) hh]
  have h1:(cur.toList.take (n*z))[j]?=xs[j]?:=by rw [ht]
  rw [List.getElem?_take,if_pos (by omega)] at h1
  rw [←Array.getElem?_toList,h1,hu]
theorem ownsRow_keep {w w':World} {B:Nat} {e:TypeId} {z n:Nat} {v:Value} {xs:List Value} (h:w.ownsRow B e z v n xs) (hk:∀ g,v.ownBlock=some g→w'.heap[g]?=w.heap[g]?):w'.ownsRow B e z v n xs:=by
 refine ⟨h.1,?_⟩
 rcases h.2 with hn | ⟨g,cap,cur,rfl,hg,hh,hr⟩
 ·exact .inl hn
 ·exact .inr ⟨g,cap,cur,rfl,hg,by rw [hk g rfl];exact hh,hr⟩
theorem ownsRow_below {w w':World} {B:Nat} {e:TypeId} {z n:Nat} {v:Value} {xs:List Value} (h:w.ownsRow B e z v n xs) (hb:Below w.heap.size w w'):w'.ownsRow B e z v n xs:=
 ownsRow_keep h fun g hg=>hb.block g (World.ownsRow.lt h g hg).2
theorem ownsRow_base {w:World} {B B':Nat} {e:TypeId} {z n:Nat} {v:Value} {xs:List Value} (h:w.ownsRow B e z v n xs) (hB:B'≤B):w.ownsRow B' e z v n xs:=by
 refine ⟨h.1,?_⟩
 rcases h.2 with hn | ⟨g,cap,cur,e,hg,hr⟩
 ·exact .inl hn
 ·exact .inr ⟨g,cap,cur,e,Nat.le_trans hB hg,hr⟩
theorem ownsRow_ne {w:World} {B B':Nat} {e e':TypeId} {z z' n n':Nat} {v v':Value} {xs ys:List Value} (h:w.ownsRow B e z v n xs) (k:w.ownsRow B' e' z' v' n' ys) (he:e≠e'):∀ g,v.ownBlock=some g→v'.ownBlock≠some g:=by
 intro g hg hg'
 rcases h.2 with ⟨rfl,_⟩ | ⟨b,cap,cur,rfl,_,hh,_⟩
 ·simp [Value.ownBlock] at hg
 rcases k.2 with ⟨rfl,_⟩ | ⟨b',cap',cur',rfl,_,hh',_⟩
 ·simp [Value.ownBlock] at hg'
 have e1:b=g:=by simpa [Value.ownBlock] using hg
 have e2:b'=g:=by simpa [Value.ownBlock] using hg'
 subst e1;subst e2
 rw [hh] at hh'
 injection hh' with hh'
 injection hh' with _ h2
 exact he h2
theorem ownsRow_nil0 (w:World) (B:Nat) (e:TypeId) (z:Nat):w.ownsRow B e z (.slice none 0 0) 0 []:=⟨by simp,.inl ⟨rfl,rfl⟩⟩
section
variable {P:Program} {w:World} {B:Nat} {e:TypeId} {v:Value} {xs:List Value}
theorem run_append_rows {t ty:TypeId} {zv vx:Value} {n m z:Nat} {ys:List Value} {bytes:Nat} (he:elemR P t e zv z bytes) (hzv:zv.cells.size=z) (hz0:0 < z) (hown:w.ownsRow B e z v n xs) (hrd:RdR w z vx m ys) (h1:∀ u∈ys,u.oneCell'=true) (hlen:(n+m)*bytes≤140737488355328) (hl2:n+m < 140737488355328) (hB:B≤w.heap.size) :
 ∃ v' w',(Builtin.append_ #[t,t] ty #[v,vx]).run P w=.ok v' w'∧w'.ownsRow B e z v' (n+m) (xs++ys)∧(∀ k,k < w.heap.size→v.ownBlock≠some k→w'.heap[k]?=w.heap[k]?)∧Below B w w':=by
 obtain ⟨i0,hi,hzz,hs,hb⟩:=info_parts he.2
 obtain ⟨hyl,a0,cap,rfl,hr⟩:=hrd
 have hml:140737488355328≤maxLen:=by simp [maxLen]
 have hlt:∀ g,v.ownBlock=some g→B≤g:=fun g hg=>(World.ownsRow.lt hown g hg).1
 by_cases hne:m=0
 ·subst hne
  have hys:ys=[]:=List.eq_nil_of_length_eq_zero (by simpa using hyl)
  subst hys
  cases a0 with
  | none=>
   refine ⟨v,w,?_,by simpa using hown,fun _ _ _=>rfl,Below.refl _ _⟩
   rcases hown.2 with ⟨rfl,rfl⟩ | ⟨g,cap',cur,rfl,_,_,hn,_⟩
   ·simp [Builtin.append_,run_underlying he.1,sizeOf,typeInfo,hi,Builtin.lenOf,Builtin.firstCells]
   ·simp [Builtin.append_,run_underlying he.1,sizeOf,typeInfo,hi,Builtin.lenOf,Builtin.firstCells,hn,storeCells]
  | some ad=>
   obtain ⟨v',w',hrun,h2,h3,_,_⟩:=run_append_own_at (P:=P) w B t ty e i0 zv z bytes he.1 hi hzz hs hb hzv hz0 v n xs hown ad 0 cap [] (by simp) (fun j u hu=>by simp at hu) (fun u hu=>by simp at hu) (by omega) (by simpa using hlen) hB
   exact ⟨v',w',hrun,h2,fun k hk hne=>h3.block k hk (fun e=>hne e.symm),(Below.refl _ _).grown h3 hB hlt⟩
 ·obtain ⟨ad,rfl,hc⟩:=hr hne
  obtain ⟨v',w',hrun,h2,h3,_,_⟩:=run_append_own_at (P:=P) w B t ty e i0 zv z bytes he.1 hi hzz hs hb hzv hz0 v n xs hown ad m cap ys hyl hc h1 (by omega) hlen hB
  exact ⟨v',w',hrun,h2,fun k hk hne=>h3.block k hk (fun e=>hne e.symm),(Below.refl _ _).grown h3 hB hlt⟩
theorem wpList_append_rows {ops:Array Oper} {rest:List Oper} {o:Oper} {a:Act} {Q:Exit→Act→World→Prop} (hgd:o.guard=none) (s x:Operand) (t:TypeId) (ho:o.op=.call { callee:=.builtin .append,args:=#[s,x],argTypes:=#[t,t] })
 (vx:Value) (n m z:Nat) (ys:List Value) (zv:Value) (bytes:Nat) (he:elemR P t e zv z bytes) (hzv:zv.cells.size=z) (hz0:0 < z) (hs:a.eval s=v) (hown:w.ownsRow B e z v n xs) (hx:a.eval x=vx) (hrd:RdR w z vx m ys) (h1:∀ u∈ys,u.oneCell'=true) (hlen:(n+m)*bytes≤140737488355328) (hl2:n+m < 140737488355328) (hB:B≤w.heap.size)
 (h:∀ v' w',w'.ownsRow B e z v' (n+m) (xs++ys)→(∀ k,k < w.heap.size→v.ownBlock≠some k→w'.heap[k]?=w.heap[k]?)→Below B w w'→wpList P ops Q rest (a.put o.dst v') w') :
 wpList P ops Q (o::rest) a w:=by
 refine wpList_plain hgd fun K hK=>?_
 obtain ⟨v',w',hrun,h2,h3,h4⟩:=run_append_rows (P:=P) (ty:=o.type) he hzv hz0 hown hrd h1 hlen hl2 hB
 unfold Oper.wp execOp
 simp only [ho,resolve,invoke,builtin,Sem.run_bind,Sem.run_pure,Result.andThen_ok,List.map_toArray,List.map_cons,List.map_nil,hs,hx,hrun]
 exact hK _ _ (h v' w' h2 h3 h4)
end
theorem ret_row_tmp {P:Program} {fn:Func} {R:Ending→World→Prop} {tmps:Array Value} {w:World} {p u:Tmp} {ty:TypeId} (h:fn.results=#[.cell p ty,.tmp u]) (g:Nat) (t:TypeId) (cs:Array Value) (d:TypeDesc) (v:Value)
 (hp:tmps.getD p undef=.pointer (some ⟨g,0,none⟩)) (hv:tmps.getD u undef=v) (hg:At w g cs t) (hu:P.underlying ty=some d) (hd:d.isRow=true) (hi:(P.info? ty).map (·.size)=some cs.size)
 (hR:R (.returned (.tuple #[.agg cs,v])) w):bodyPost P fn R .ret ⟨tmps,[]⟩ w:=by
 refine bodyPost_ret (v:=.tuple #[.agg cs,v]) ?_ rfl hR
 rw [results_cell_tmp h,hp,hv]
 have hrow:=run_loadVar_row (P:=P) w g t ty cs (0,0) d hg hu (by cases d <;> first | rfl | exact hd) hi
 simp [asAddr,Result.andThen,hrow]
def Each2 {α β:Type} (R:α→β→Prop):List α→List β→Prop
 | [],[]=>True
 | x::l,y::m=>R x y∧Each2 R l m
 | _,_=>False
theorem Each2.length {α β:Type} {R:α→β→Prop}:∀ {l:List α} {m:List β},Each2 R l m→l.length=m.length
 | [],[],_=>rfl
 | _::l,_::m,h=>by simp [Each2.length h.2]
theorem Each2.mono {α β:Type} {R S:α→β→Prop} (hs:∀ x y,R x y→S x y):∀ {l:List α} {m:List β},Each2 R l m→Each2 S l m
 | [],[],_=>trivial
 | _::_,_::_,h=>⟨hs _ _ h.1,Each2.mono hs h.2⟩
theorem Each2.snoc {α β:Type} {R:α→β→Prop} {x:α} {y:β} (hr:R x y):∀ {l:List α} {m:List β},Each2 R l m→Each2 R (l++[x]) (m++[y])
 | [],[],_=>⟨hr,trivial⟩
 | _::_,_::_,h=>⟨h.1,Each2.snoc hr h.2⟩
theorem Each2.at {α β:Type} {R:α→β→Prop}:∀ {l:List α} {m:List β},Each2 R l m→∀ {i:Nat} {y:β},m[i]?=some y→∃ x,l[i]?=some x∧R x y
 | [],[],_,_,_,hy=>by simp at hy
 | _::_,z::_,h,0,y,hy=>by
  have hzy:z=y:=by simpa using hy
  subst hzy
  exact ⟨_,rfl,h.1⟩
 | _::l,_::m,h,i+1,y,hy=>by
  have hy':m[i]?=some y:=by simpa using hy
  simpa using Each2.at h.2 hy'
end Mem
end Go.Proofs.YtddjdaocdfkgeaaGreatDoor
namespace Go.Proofs.YtddjdaocdfkgeaaGreatDoor
namespace Sha
open Go.RowKit Mem
theorem left_any (x:BitVec 32) (n:Nat) (w:World) (hn:n < 32) :
 Calls Tryz.prog 125 #[.int .u32 (V x),.int .i64 (n:Int)] w fun e w'=>e=.returned (.int .u32 (V (x.rotateLeft n)))∧w=w':=by
 go_enter Tryz.func125,Tryz.ntmps125
 go_wp2_with fail
 go_loop [0,5] (fun v i=>∃ k:Nat,k≤n∧i=.int .i64 k∧v=.int .u32 (V (x.rotateLeft k))) (fun _ i=>n - (intOf i).toNat)
 case atStart=>exact ⟨0,by omega,rfl,by rw [rotl_zero]⟩
 case round=>
  obtain ⟨k,hk,rfl,rfl⟩:=hrel
  obtain ⟨y,hy⟩:∃ y,y=x.rotateLeft k:=⟨_,rfl⟩
  by_cases hlt:k < n
  ·have hs:=lf_val x k (by omega)
   rw [←hy] at hs ⊢
   have v0:=V_lo y
   have v1:=V_hi y
   have hlt':(k:Int) < (n:Int):=by omega
   have HS:=zh hs
   clear hs hy
   go_wp2
   go_round
   case rel=>exact ⟨k+1,by omega,by go_num,by rw [←HS.out];congr 1;first | omega | (rw [Int.tdiv_eq_ediv_of_nonneg v0];omega)⟩
   case measure=>simp [intOf];omega
  ·have hkn:k=n:=by omega
   rw [←hy]
   have HY:Hid (y=x.rotateLeft n):=by rw [hy,hkn];exact (rfl:x.rotateLeft n=x.rotateLeft n)
   have hge:¬ (k:Int) < (n:Int):=by omega
   clear hy hkn hlt
   go_wp2
   go_ret
   exact ⟨by rw [←HY.out];rfl,rfl⟩
structure TabV (w:World) (g:Nat) (cs:List Value):Prop where
 lt:g < w.heap.size
 c:w.rangeAt g 0 cs
theorem TabV.below {w w':World} {B g:Nat} {cs:List Value} (h:TabV w g cs) (hb:Below B w w') (hlt:g < B):TabV w' g cs:=
 ⟨Nat.lt_of_lt_of_le h.lt hb.size,fun j v hv=>by rw [hb.cell (p:=⟨g,0+j,none⟩) hlt];exact h.c j v hv⟩
def rowY (l:List (BitVec 32)) (n i:Nat):List (BitVec 32):=l.take i++List.replicate (n - i) 0
theorem rowY_length (l:List (BitVec 32)) (n i:Nat) (hl:l.length=n) (h:i≤n):(rowY l n i).length=n:=by simp [rowY,hl];omega
theorem rowY_set (l:List (BitVec 32)) (n i:Nat) (hl:l.length=n) (h:i < n):(rowY l n i).set i (l.getD i 0)=rowY l n (i+1):=by
 unfold rowY
 have hi:i < l.length:=by omega
 rw [List.set_append_right _ _ (by rw [List.length_take];omega),List.length_take,Nat.min_eq_left (by omega),Nat.sub_self,show n - i=(n - (i+1))+1 by omega,List.replicate_succ,List.set_cons_zero,List.take_succ_eq_append_getElem hi,List.append_assoc]
 simp [List.getD_eq_getElem?_getD,hi]
theorem rowY_all (l:List (BitVec 32)) (n:Nat) (hl:l.length=n):rowY l n n=l:=by
 unfold rowY
 rw [List.take_of_length_le (by omega)]
 simp
def Tab (w:World) (g:Nat) (l:List (BitVec 32)):Prop:=g < w.heap.size∧∀ i,i < l.length→w.cell? ⟨g,i,none⟩=some (.int .u32 (V (l.getD i 0)))
theorem Tab.below {w w':World} {B g:Nat} {l:List (BitVec 32)} (h:Tab w g l) (hb:Below B w w') (hlt:g < B):Tab w' g l:=
 ⟨Nat.lt_of_lt_of_le h.1 hb.size,fun i hi=>by rw [hb.cell (p:=⟨g,i,none⟩) hlt];exact h.2 i hi⟩
theorem Tab.keep {w w':World} {b g:Nat} {l:List (BitVec 32)} (h:Tab w g l) (o:∀ k,k≠b→w'.heap[k]?=w.heap[k]?) (hne:g≠b):Tab w' g l:=by
 have e:=o g hne
 refine ⟨?_,fun i hi=>by rw [World.cell?_of_block (w:=w) (w':=w') e];exact h.2 i hi⟩
 have h1:=h.1
 rcases Nat.lt_or_ge g w'.heap.size with h2 | h2
 ·exact h2
 ·rw [Array.getElem?_eq_none h2,Array.getElem?_eq_getElem h1] at e
  cases e
theorem Tab.set_other {w:World} {g:Nat} {l:List (BitVec 32)} (h:Tab w g l) (a:Addr) (v:Value) (hne:g≠a.block):Tab (w.setCell a v) g l:=
 h.keep (b:=a.block) (fun k hk=>heap_setCell_other w a k v hk) hne
structure Tabs (w:World):Prop where
 k:Tab w 1 Kl
 f:Tab w 0 IVl
theorem Tabs.below {w w':World} {B:Nat} (h:Tabs w) (hb:Below B w w') (hB:w.heap.size≤B):Tabs w':=
 ⟨h.k.below hb (Nat.lt_of_lt_of_le h.k.1 hB),h.f.below hb (Nat.lt_of_lt_of_le h.f.1 hB)⟩
theorem turn_q (x:BitVec 32) (n:Int) (r:Nat) (w:World) (hr:(n % 32).toNat=r) (h0:-9223372036854775808≤n) (h1:n≤9223372036854775807) :
 Calls Tryz.prog 127 #[.int .u32 (V x),.int .i64 n] w fun e w'=>e=.returned (.int .u32 (V (x.rotateRight r)))∧w'=w:=
 (turn_any x n r w hr h0 h1).mono fun _ _ ⟨a,b⟩=>⟨a,b.symm⟩
def Z8:Array Value:=(u32s (List.replicate 8 0)).toArray
theorem zero8 (w:World):(zeroValue 147).run Tryz.prog w=.ok (.agg Z8) w:=by kernel_rfl
theorem info8:(Tryz.prog.info? 147).map (·.size)=some 8:=by kernel_rfl
theorem infoW:(Tryz.prog.info? 30).map (·.size)=some 1:=by kernel_rfl
theorem info64b:(Tryz.prog.info? 148).map (·.size)=some 64:=by kernel_rfl
structure AInv (B Bw:Nat) (w:World) (Hr D:Array Value) (wr:World):Prop where
 h:At wr B Hr 147
 r:At wr (B+2) Z8 147
 d:At wr Bw D 190
 tabs:Tabs wr
 b:Below B w wr
theorem AInv.drewN {B Bw n:Nat} {w wr:World} {Hr D:Array Value} (h:AInv B Bw w Hr D wr):AInv B Bw w Hr D (wr.drewN n):=
 ⟨h.h,h.r,h.d,⟨h.tabs.k,h.tabs.f⟩,Below.drewN' h.b⟩
def Slots (r:Reg) (a b c d e f g h:Value):Prop:=
 a=.int .u32 (V r.a)∧b=.int .u32 (V r.b)∧c=.int .u32 (V r.c)∧d=.int .u32 (V r.d)∧e=.int .u32 (V r.e)∧f=.int .u32 (V r.f)∧g=.int .u32 (V r.g)∧h=.int .u32 (V r.h)
theorem addBlock_any (H:List (BitVec 32)) (T:Lb8) (hH:H.length=8) (hT:T.length=64) (w:World) (hL:Tabs w) :
 Calls Tryz.prog 122 #[.agg (u32s H).toArray,.agg (u8s T).toArray] w fun e w'=>e=.returned (.agg (u32s (addB H T)).toArray)∧Below w.heap.size w w':=by
 obtain ⟨Hr,hHr⟩:∃ A,A=(u32s H).toArray:=⟨_,rfl⟩
 obtain ⟨Tr,hTr⟩:∃ A,A=(u8s T).toArray:=⟨_,rfl⟩
 obtain ⟨Z,hZ⟩:∃ A,A=Z64:=⟨_,rfl⟩
 obtain ⟨Y,hY⟩:∃ A,A=Z8:=⟨_,rfl⟩
 obtain ⟨D,hD⟩:∃ A,A=(u32s (sched T)).toArray:=⟨_,rfl⟩
 have hsc:∀ w,Calls Tryz.prog 126 #[.agg Tr] w fun e w'=>e=.returned (.agg D)∧Below w.heap.size w w':=by
  rw [hTr,hD];exact sched_any T hT
 have hz:=zero64
 have hy:=zero8
 have sT:Tr.size=64:=by rw [hTr];simp [u8s,hT]
 have sD:D.size=64:=by rw [hD];simp [u32s,sched,ext_length,wds_length]
 have sZ:Z.size=64:=by rw [hZ];exact wrow_size [] (by simp)
 have oD:D.all (·.oneCell')=true:=by rw [hD];exact u32s_one _
 rw [←hHr,←hTr]
 rw [←hZ] at hz
 rw [←hY] at hy
 have HHr:=zh hHr;have HTr:=zh hTr;have HZ:=zh hZ;have HY:=zh hY;have HD:=zh hD;have HSC:=zh hsc
 have HT:=zh hT;have HH:=zh hH;have ST:=zh sT;have SD:=zh sD;have SZ:=zh sZ;have OD:=zh oD;have HL:=zh hL
 clear hHr hTr hZ hY hD hsc hT hH sT sD sZ oD hL
 have aT:At (((w.alloc (.cells Hr 147)).alloc (.cells Tr 148)).alloc (.cells Y 147)) (w.heap.size+1) Tr 148:=by
  have:=(at_new (w.alloc (.cells Hr 147)) Tr 148).alloc (.cells Y 147)
  simpa using this
 have AT:=zh aT;clear aT
 go_enter Tryz.func122,Tryz.ntmps122
 go_wp2_with (first | (refine wpList_load_all zr 148 _ zr _ zr _ Tryz.underlying148 zr _ _ AT.out (by rw [ST.out];exact info64b) ?_) | (go_at_call 126;refine (HSC.out _).mono ?_;rintro e w2 ⟨rfl,hb2⟩) | (refine wpList_store_new zr 190 _ _ zr zr D _ _ zr zr (by rw [SD.out];exact info64) (by rw [SD.out,SZ.out]) OD.out ?_))
 clear hz hy
 have hI:AInv w.heap.size w2.heap.size w Hr D (w2.alloc (.cells D 190)):=by
  have hb1:Below w.heap.size w (((w.alloc (.cells Hr 147)).alloc (.cells Tr 148)).alloc (.cells Y 147)):=(((Below.refl _ _).alloc (Nat.le_refl _) _).alloc (by simp) _).alloc (by simp;omega) _
  have aH:At (((w.alloc (.cells Hr 147)).alloc (.cells Tr 148)).alloc (.cells Y 147)) w.heap.size Hr 147:=((at_new w Hr 147).alloc _).alloc _
  have aY:At (((w.alloc (.cells Hr 147)).alloc (.cells Tr 148)).alloc (.cells Y 147)) (w.heap.size+2) Y 147:=by
   have:=at_new ((w.alloc (.cells Hr 147)).alloc (.cells Tr 148)) Y 147
   simpa using this
  have hsz2:=hb2.size
  have hs1:(((w.alloc (.cells Hr 147)).alloc (.cells Tr 148)).alloc (.cells Y 147)).heap.size=w.heap.size+3:=by simp
  rw [hs1] at hb2 hsz2
  refine ⟨(aH.below hb2 (by omega)).alloc _,?_,at_new w2 D _,?_,?_⟩
  ·rw [←HY.out];exact (aY.below hb2 (by omega)).alloc _
  ·have t1:=HL.out.below hb1 (Nat.le_refl _)
   have t2:=t1.below hb2 (by rw [hs1];exact Nat.le_refl _)
   exact t2.below ((Below.refl w2.heap.size w2).alloc (Nat.le_refl _) _) (Nat.le_refl _)
  ·exact (hb1.trans (hb2.mono (by omega))).alloc (by omega) _
 have hBw:w.heap.size+3≤w2.heap.size:=by have:=hb2.size;simpa using this
 clear hb2
 generalize hB2:w2.alloc (.cells D 190)=w3 at *
 generalize w2.heap.size=Bw at *
 clear hB2 w2
 have f0:w3.cell? ⟨0,0,none⟩=some (.int .u32 (V (IVl.getD 0 0))):=hI.tabs.f.2 0 (by decide)
 have h0:w3.cell? ⟨w.heap.size,0,none⟩=some (.int .u32 (V (H.getD 0 0))):=by rw [hI.h.cell,HHr.out,List.getElem?_toArray];exact u32s_get H 0 (by rw [HH.out];decide)
 have f1:w3.cell? ⟨0,1,none⟩=some (.int .u32 (V (IVl.getD 1 0))):=hI.tabs.f.2 1 (by decide)
 have h1:w3.cell? ⟨w.heap.size,1,none⟩=some (.int .u32 (V (H.getD 1 0))):=by rw [hI.h.cell,HHr.out,List.getElem?_toArray];exact u32s_get H 1 (by rw [HH.out];decide)
 have f2:w3.cell? ⟨0,2,none⟩=some (.int .u32 (V (IVl.getD 2 0))):=hI.tabs.f.2 2 (by decide)
 have h2:w3.cell? ⟨w.heap.size,2,none⟩=some (.int .u32 (V (H.getD 2 0))):=by rw [hI.h.cell,HHr.out,List.getElem?_toArray];exact u32s_get H 2 (by rw [HH.out];decide)
 have f3:w3.cell? ⟨0,3,none⟩=some (.int .u32 (V (IVl.getD 3 0))):=hI.tabs.f.2 3 (by decide)
 have h3:w3.cell? ⟨w.heap.size,3,none⟩=some (.int .u32 (V (H.getD 3 0))):=by rw [hI.h.cell,HHr.out,List.getElem?_toArray];exact u32s_get H 3 (by rw [HH.out];decide)
 have f4:w3.cell? ⟨0,4,none⟩=some (.int .u32 (V (IVl.getD 4 0))):=hI.tabs.f.2 4 (by decide)
 have h4:w3.cell? ⟨w.heap.size,4,none⟩=some (.int .u32 (V (H.getD 4 0))):=by rw [hI.h.cell,HHr.out,List.getElem?_toArray];exact u32s_get H 4 (by rw [HH.out];decide)
 have f5:w3.cell? ⟨0,5,none⟩=some (.int .u32 (V (IVl.getD 5 0))):=hI.tabs.f.2 5 (by decide)
 have h5:w3.cell? ⟨w.heap.size,5,none⟩=some (.int .u32 (V (H.getD 5 0))):=by rw [hI.h.cell,HHr.out,List.getElem?_toArray];exact u32s_get H 5 (by rw [HH.out];decide)
 have f6:w3.cell? ⟨0,6,none⟩=some (.int .u32 (V (IVl.getD 6 0))):=hI.tabs.f.2 6 (by decide)
 have h6:w3.cell? ⟨w.heap.size,6,none⟩=some (.int .u32 (V (H.getD 6 0))):=by rw [hI.h.cell,HHr.out,List.getElem?_toArray];exact u32s_get H 6 (by rw [HH.out];decide)
 have f7:w3.cell? ⟨0,7,none⟩=some (.int .u32 (V (IVl.getD 7 0))):=hI.tabs.f.2 7 (by decide)
 have h7:w3.cell? ⟨w.heap.size,7,none⟩=some (.int .u32 (V (H.getD 7 0))):=by rw [hI.h.cell,HHr.out,List.getElem?_toArray];exact u32s_get H 7 (by rw [HH.out];decide)
 obtain ⟨p0,hp0⟩:∃ p,p=IVl.getD 0 0:=⟨_,rfl⟩
 obtain ⟨q0,hq0⟩:∃ q,q=H.getD 0 0:=⟨_,rfl⟩
 rw [←hp0] at f0
 rw [←hq0] at h0
 have P0:=zh hp0;have Q0:=zh hq0;clear hp0 hq0
 obtain ⟨p1,hp1⟩:∃ p,p=IVl.getD 1 0:=⟨_,rfl⟩
 obtain ⟨q1,hq1⟩:∃ q,q=H.getD 1 0:=⟨_,rfl⟩
 rw [←hp1] at f1
 rw [←hq1] at h1
 have P1:=zh hp1;have Q1:=zh hq1;clear hp1 hq1
 obtain ⟨p2,hp2⟩:∃ p,p=IVl.getD 2 0:=⟨_,rfl⟩
 obtain ⟨q2,hq2⟩:∃ q,q=H.getD 2 0:=⟨_,rfl⟩
 rw [←hp2] at f2
 rw [←hq2] at h2
 have P2:=zh hp2;have Q2:=zh hq2;clear hp2 hq2
 obtain ⟨p3,hp3⟩:∃ p,p=IVl.getD 3 0:=⟨_,rfl⟩
 obtain ⟨q3,hq3⟩:∃ q,q=H.getD 3 0:=⟨_,rfl⟩
 rw [←hp3] at f3
 rw [←hq3] at h3
 have P3:=zh hp3;have Q3:=zh hq3;clear hp3 hq3
 obtain ⟨p4,hp4⟩:∃ p,p=IVl.getD 4 0:=⟨_,rfl⟩
 obtain ⟨q4,hq4⟩:∃ q,q=H.getD 4 0:=⟨_,rfl⟩
 rw [←hp4] at f4
 rw [←hq4] at h4
 have P4:=zh hp4;have Q4:=zh hq4;clear hp4 hq4
 obtain ⟨p5,hp5⟩:∃ p,p=IVl.getD 5 0:=⟨_,rfl⟩
 obtain ⟨q5,hq5⟩:∃ q,q=H.getD 5 0:=⟨_,rfl⟩
 rw [←hp5] at f5
 rw [←hq5] at h5
 have P5:=zh hp5;have Q5:=zh hq5;clear hp5 hq5
 obtain ⟨p6,hp6⟩:∃ p,p=IVl.getD 6 0:=⟨_,rfl⟩
 obtain ⟨q6,hq6⟩:∃ q,q=H.getD 6 0:=⟨_,rfl⟩
 rw [←hp6] at f6
 rw [←hq6] at h6
 have P6:=zh hp6;have Q6:=zh hq6;clear hp6 hq6
 obtain ⟨p7,hp7⟩:∃ p,p=IVl.getD 7 0:=⟨_,rfl⟩
 obtain ⟨q7,hq7⟩:∃ q,q=H.getD 7 0:=⟨_,rfl⟩
 rw [←hp7] at f7
 rw [←hq7] at h7
 have P7:=zh hp7;have Q7:=zh hq7;clear hp7 hq7
 have HI:=zh hI;clear hI
 go_quiet (fail)
 go_wp2_with fail
 go_quiet (fail)
 go_wp2_with fail
 obtain ⟨R,hR⟩:∃ R,R=regOf (adds IVl H):=⟨_,rfl⟩
 have HR:=zh hR;clear hR
 go_loopw [6,7,8,9,10,11,12,13,61] (fun a b c d e f g h i wr=>∃ t:Nat,t≤64∧i=.int .i64 t∧Slots (rnds (sched T) R t) a b c d e f g h∧AInv w.heap.size Bw w Hr D wr) (fun _ _ _ _ _ _ _ _ i _=>64 - (intOf i).toNat)
 case atStart=>
  refine ⟨0,by omega,rfl,?_,HI.out.drewN.drewN⟩
  have e:R=⟨p0+q0,p1+q1,p2+q2,p3+q3,p4+q4,p5+q5,p6+q6,p7+q7⟩:=by
   have hl:=HH.out
   rw [HR.out,P0.out,P1.out,P2.out,P3.out,P4.out,P5.out,P6.out,P7.out,Q0.out,Q1.out,Q2.out,Q3.out,Q4.out,Q5.out,Q6.out,Q7.out]
   match H,hl with
   | [a,b,c,d,e,f,g,h],_=>rfl
  rw [r_add,r_add,r_add,r_add,r_add,r_add,r_add,r_add,e]
  exact ⟨rfl,rfl,rfl,rfl,rfl,rfl,rfl,rfl⟩
 case round=>
  obtain ⟨t,ht,rfl,⟨rfl,rfl,rfl,rfl,rfl,rfl,rfl,rfl⟩,hI⟩:=hrel
  by_cases hlt:t < 64
  ·obtain ⟨r,hr⟩:∃ r,r=rnds (sched T) R t:=⟨_,rfl⟩
   rw [←hr]
   have HRR:=zh hr;clear hr
   obtain ⟨ra,rb,rc,rd,re,rf,rg,rh⟩:=r
   have ck:wr.cell? ⟨1,t,none⟩=some (.int .u32 (V (Kl.getD t 0))):=hI.tabs.k.2 t hlt
   have cm:wr.cell? ⟨Bw,t,none⟩=some (.int .u32 (V ((sched T).getD t 0))):=by
    rw [hI.d.cell,HD.out,List.getElem?_toArray];exact u32s_get _ t (by rw [sched,ext_length,wds_length];exact hlt)
   obtain ⟨k,hk⟩:∃ k,k=Kl.getD t 0:=⟨_,rfl⟩
   obtain ⟨m,hm⟩:∃ m,m=(sched T).getD t 0:=⟨_,rfl⟩
   rw [←hk] at ck
   rw [←hm] at cm
   have HK:=zh hk;have HM:=zh hm;have HI':=zh hI
   clear hk hm hI
   have T6:=zh (fun w=>turn_q re 6 6 w rfl (by decide) (by decide))
   have T11:=zh (fun w=>turn_q re 11 11 w rfl (by decide) (by decide))
   have T25:=zh (fun w=>turn_q re 25 25 w rfl (by decide) (by decide))
   have T2:=zh (fun w=>turn_any ra 2 2 w rfl (by decide) (by decide))
   have T13:=zh (fun w=>turn_any ra 13 13 w rfl (by decide) (by decide))
   have T22:=zh (fun w=>turn_any ra 22 22 w rfl (by decide) (by decide))
   go_wp2_with fail
   go_quiet ((go_at_call 127;first | (with_reducible exact Calls.quiet_of_same (T6.out _)) | (with_reducible exact Calls.quiet_of_same (T11.out _)) | (with_reducible exact Calls.quiet_of_same (T25.out _))))
   have HI2:=zh (HI'.out.drewN (n:=nq))
   generalize wr.drewN nq=wq at *
   go_wp2_with (go_at_call 127;first | ((with_reducible refine (T2.out _).mono ?_);rintro e w' ⟨rfl,rfl⟩) | ((with_reducible refine (T13.out _).mono ?_);rintro e w' ⟨rfl,rfl⟩) | ((with_reducible refine (T22.out _).mono ?_);rintro e w' ⟨rfl,rfl⟩))
   go_roundw
   case rel=>
    refine ⟨t+1,by omega,by go_num,?_,HI2.out⟩
    have e:rnds (sched T) R (t+1)=rnd k m ⟨ra,rb,rc,rd,re,rf,rg,rh⟩:=by rw [HK.out,HM.out,HRR.out];rfl
    rw [e]
    have et:=tee_val k m ⟨ra,rb,rc,rd,re,rf,rg,rh⟩
    have ey:=you_val ⟨ra,rb,rc,rd,re,rf,rg,rh⟩
    rw [et,ey,r_add,r_add]
    exact ⟨rfl,rfl,rfl,rfl,rfl,rfl,rfl,rfl⟩
   case measure=>simp [intOf];omega
  ·have ht64:t=64:=by omega
   obtain ⟨r,hr⟩:∃ r,r=rnds (sched T) R t:=⟨_,rfl⟩
   rw [←hr]
   rw [ht64] at hr
   have hge:¬ (t:Int) < 64:=by omega
   have HRR:=zh hr;clear hr ht64 ht hlt
   obtain ⟨ra,rb,rc,rd,re,rf,rg,rh⟩:=r
   obtain ⟨M,hM⟩:∃ M,M=Reg.list ⟨ra,rb,rc,rd,re,rf,rg,rh⟩:=⟨_,rfl⟩
   have hlen:H.length=M.length:=by rw [HH.out,hM];rfl
   have hMl:M.length=8:=by rw [hM];rfl
   have HM:=zh hM;have HLEN:=zh hlen;have HML:=zh hMl;have HI':=zh hI
   clear hM hlen hMl hI
   go_wp2_with fail
   obtain ⟨wo,rfl⟩:∃ wo:World,wo=wr:=⟨_,rfl⟩
   go_loopw [133] (fun i wr=>∃ j:Nat,j≤8∧i=.int .i64 j∧AInv w.heap.size Bw w (u32s (addTo H M j)).toArray D wr) (fun i _=>8 - (intOf i).toNat)
   case atStart=>
    refine ⟨0,by omega,rfl,?_⟩
    have:=HI'.out
    rw [HHr.out] at this
    simpa [addTo] using this
   case round=>
    obtain ⟨j,hj,rfl,hI⟩:=hrel
    by_cases hlt:j < 8
    ·have hl1:(addTo H M j).length=8:=by rw [addTo_length H M HLEN.out,HH.out]
     have ca:wr.cell? ⟨w.heap.size,j,none⟩=some (.int .u32 (V (H.getD j 0))):=by
      rw [hI.h.cell,List.getElem?_toArray,u32s_get _ j (by omega),addTo_get H M HLEN.out j (by rw [HH.out];exact hlt)]
     have fa:wr.frozen? ⟨w.heap.size,j,none⟩=false:=hI.h.free j
     obtain ⟨x,hx⟩:∃ x,x=H.getD j 0:=⟨_,rfl⟩
     rw [←hx] at ca
     have HX:=zh hx;have HI2:=zh hI;have HL1:=zh hl1
     clear hx hI hl1
     have hjv:(u32s M).toArray[j]?=some (.int .u32 (V (M.getD j 0))):=by rw [List.getElem?_toArray];exact u32s_get M j (by rw [HML.out];exact hlt)
     obtain ⟨y,hy'⟩:∃ y,y=M.getD j 0:=⟨_,rfl⟩
     rw [←hy'] at hjv
     have HYV:=zh hy';have HJV:=zh hjv
     clear hy' hjv
     go_wp2_with (refine wpList_index_row zr 147 _ _ zr 8 30 Tryz.underlying147 _ Tryz.underlying30 zr infoW (u32s M).toArray j (by rw [HM.out];rfl) zr hlt _ HJV.out ?_)
     go_roundw
     case rel=>
      refine ⟨j+1,by omega,by go_num,?_⟩
      rw [r_add]
      have hI:=HI2.out
      have e:(u32s (addTo H M j)).toArray.setIfInBounds j (.int .u32 (V (x+y)))=(u32s (addTo H M (j+1))).toArray:=by
       rw [u32s_set,HX.out,HYV.out,addTo_set H M HLEN.out j (by rw [HH.out];exact hlt)]
      have hh:=hI.h.set j (.int .u32 (V (x+y)))
      rw [e] at hh
      have hb2':w.heap.size+3≤Bw:=hBw
      exact ⟨hh,hI.r.set_other _ _ (by simp),hI.d.set_other _ _ (by simp;omega),⟨hI.tabs.k.set_other _ _ (by simp;have:=HL.out.k.1;omega),hI.tabs.f.set_other _ _ (by simp;have:=HL.out.f.1;omega)⟩,hI.b.setCell (by simp) _⟩
     case measure=>simp [intOf];omega
    ·have hj8:j=8:=by omega
     rw [hj8] at hI
     have hge':¬ (j:Int) < 8:=by omega
     have hfin:addTo H M 8=addB H T:=by
      have e:=addTo_all H M HLEN.out
      rw [HH.out] at e
      rw [e,addB,←HR.out,←HRR.out,HM.out]
     rw [hfin] at hI
     have hs8:(u32s (addB H T)).toArray.size=8:=by
      rw [←hfin];simp [u32s,addTo_length H M HLEN.out,HH.out]
     have h8:=hI.h;have hr8:=hI.r;have hb8:=hI.b
     have ho8:=u32s_one (addB H T)
     obtain ⟨E,hE⟩:∃ E,E=(u32s (addB H T)).toArray:=⟨_,rfl⟩
     rw [←hE] at h8 hs8 ho8
     have HE:=zh hE;have H8:=zh h8;have HR8:=zh hr8;have HB8:=zh hb8;have HS8:=zh hs8;have HO8:=zh ho8
     clear hj8 hj hlt hfin hE h8 hr8 hb8 hs8 ho8 hI
     go_wp2_with (first | (refine wpList_load_all zr 147 _ zr _ zr _ Tryz.underlying147 zr _ _ H8.out (by rw [HS8.out];exact info8) ?_) | (refine wpList_store_all zr 147 _ _ zr zr _ _ zr zr (by rw [HS8.out];exact info8) _ _ HR8.out (by rw [HS8.out];rfl) HO8.out ?_))
     try simp only [Exit.inBlock,Exit.then]
     refine ret_row zr (w.heap.size+2) 147 E _ zr (HR8.out.row E) Tryz.underlying147 zr (by rw [HS8.out];exact info8) ?_
     exact ⟨by rw [HE.out],below_row HB8.out (by omega) E⟩
def lenOf:Value→Nat | .slice _ n _=>n | _=>0
def Zst:Array Value:=stRow (List.replicate 8 0) zs64 0
def ZT:Array Value:=(u8s zs64).toArray
theorem zeroSt (w:World):(zeroValue 150).run Tryz.prog w=.ok (.agg Zst) w:=by kernel_rfl
theorem infoSt:(Tryz.prog.info? 150).map (·.size)=some 73:=by kernel_rfl
theorem stRow_one {H:List (BitVec 32)} {T:Lb8} {n:Nat}:(stRow H T n).all (·.oneCell')=true:=by
 simp [stRow,stL,u32s,u8s,Value.oneCell']
theorem ZT_size:ZT.size=64:=by simp [ZT,u8s,zs64]
theorem Zst_size:Zst.size=73:=stRow_size (by simp) (by simp [zs64])
structure WInv (s:Fed) (N:Nat) (B:Nat) (w wr:World):Prop where
 c:At wr B (stRow s.H s.T N) 150
 z:At wr (B+1) Zst 150
 b:Below B w wr
def WRel (s:Fed) (l:Lb8) (N:Nat) (w:World) (vb va:Value) (wr:World):Prop:=
 ∃ done rest,l=done++rest∧Sl w vb rest∧va=.int .i64 ((feeds s done).at':Int)∧WInv (feeds s done) N w.heap.size w wr
theorem write_any (s:Fed) (hs:Ok s) (n:Nat) (hn:n % 64=s.at') (l:Lb8) (v:Value) (w:World) (hN:n+l.length≤9223372036854775807) (hv:Sl w v l) (hL:Tabs w) :
 Calls Tryz.prog 109 #[.agg (stRow s.H s.T n),v] w fun e w'=>e=.returned (.agg (stRow (feeds s l).H (feeds s l).T (n+l.length)))∧Below w.heap.size w w':=by
 have hv0:=hv
 obtain ⟨a0,cap0,rfl,hcap0,_⟩:=hv
 obtain ⟨C,hC⟩:∃ C,C=stRow s.H s.T n:=⟨_,rfl⟩
 obtain ⟨Z,hZ⟩:∃ Z,Z=Zst:=⟨_,rfl⟩
 obtain ⟨N,hNN⟩:∃ N,N=n+l.length:=⟨_,rfl⟩
 have hz:=zeroSt
 rw [←hZ] at hz
 rw [←hC]
 have hsz:C.size=73:=by rw [hC];exact stRow_size hs.h hs.t
 have h72:C[72]?=some (.int .u64 (n:Int)):=by rw [hC];exact stRow_n hs.h hs.t
 have hmod:((n % 64:Nat):Int)=(s.at':Int):=by rw [hn]
 have aC:At ((w.alloc (.cells C 150)).alloc (.cells Z 150)) w.heap.size C 150:=(at_new w C _).alloc _
 have aZ:At ((w.alloc (.cells C 150)).alloc (.cells Z 150)) (w.heap.size+1) Z 150:=by
  have:=at_new (w.alloc (.cells C 150)) Z 150
  simpa using this
 have b1:Below w.heap.size w ((w.alloc (.cells C 150)).alloc (.cells Z 150)):=((Below.refl _ _).alloc (Nat.le_refl _) _).alloc (by simp) _
 have s1:((w.alloc (.cells C 150)).alloc (.cells Z 150)).heap.size=w.heap.size+2:=by simp
 have HC:=zh hC;have HZ:=zh hZ;have HNN:=zh hNN;have HSZ:=zh hsz;have H72:=zh h72;have HM:=zh hmod;have AC:=zh aC;have AZ:=zh aZ;have B1:=zh b1;have S1:=zh s1
 have HV:=zh hv0;have HLT':=zh hL;have HS:=zh hs;have HMOD:=zh hn
 clear hC hZ hNN hsz h72 hmod aC aZ b1 s1 hv0 hL hs hn
 have TS:Hid (∀ w:World,Calls Tryz.prog 121 #[.agg C] w fun e w'=>e=.returned (.int .i64 (s.at':Int))∧Below w.heap.size w w'):=fun w=>by
  have:=tailSize_any C n w H72.out
  rw [HM.out] at this
  exact this
 go_enter Tryz.func109,Tryz.ntmps109
 go_wp2_with (first | (refine wpList_load_all zr 150 _ zr _ zr _ Tryz.underlying150 zr _ _ AC.out (by rw [HSZ.out];exact infoSt) ?_) | (go_at_call 121;refine (TS.out _).mono ?_;rintro e w2 ⟨rfl,hb2⟩;have a2:=AC.out.below hb2 (by rw [S1.out];omega);have c72:=(a2.cell 72).trans H72.out;have f72:=a2.free 72;have A2:=zh a2;have HB2:=zh hb2;clear a2 hb2))
 have hI0:WInv s N w.heap.size w (w2.setCell ⟨w.heap.size,72,none⟩ (.int .u64 ((n:Int)+(l.length:Int)))):=by
  have hb2:=HB2.out
  rw [S1.out] at hb2
  refine ⟨?_,?_,(B1.out.trans (hb2.mono (by omega))).setCell (by simp) _⟩
  ·have h:=A2.out.set 72 (.int .u64 ((N:Nat):Int))
   rw [HC.out,stRow_set HS.out.h HS.out.t] at h
   rw [←Int.natCast_add,←HNN.out]
   exact h
  ·rw [←HZ.out];exact (AZ.out.below hb2 (by omega)).set_other _ _ (by simp)
 have HI0:=zh hI0
 clear hI0 c72 f72 hz
 go_loopw [1,5,6] (fun vb va _ wr=>WRel s l N w vb va wr) (fun vb _ _ _=>lenOf vb)
 case atStart=>exact ⟨[],l,rfl,HV.out,rfl,HI0.out⟩
 case round=>
  obtain ⟨done,rest,hl,⟨a,cap,rfl,hcap,hcells⟩,rfl,hI⟩:=hrel
  have hok:=feeds_ok done HS.out
  obtain ⟨F,hF⟩:∃ F,F=feeds s done:=⟨_,rfl⟩
  rw [←hF] at hI hok ⊢
  obtain ⟨m,hm⟩:∃ m,m=rest.length:=⟨_,rfl⟩
  rw [←hm] at hcap ⊢
  have HF:=zh hF;have HL:=zh hl;have HI:=zh hI;have HOK:=zh hok;have HMM:=zh hm;have HCE:=zh hcells
  clear hF hl hI hok hcells
  by_cases hne:m=0
  ·have hlen:¬ (0:Int) < (m:Int):=by omega
   have hr0:rest=[]:=List.eq_nil_of_length_eq_zero (by rw [←hm];exact hne)
   have hld:l=done:=by rw [HL.out,hr0,List.append_nil]
   have hA:=HI.out.c
   obtain ⟨G,hG⟩:∃ G,G=stRow F.H F.T N:=⟨_,rfl⟩
   rw [←hG] at hA
   have hGs:G.size=73:=by rw [hG];exact stRow_size HOK.out.h HOK.out.t
   have hGo:G.all (·.oneCell')=true:=by rw [hG];exact stRow_one
   have hfin:stRow (feeds s l).H (feeds s l).T (n+l.length)=G:=by rw [hG,←HNN.out,hld,←HF.out]
   have HA:=zh hA;have HG:=zh hG;have HGS:=zh hGs;have HGO:=zh hGo;have HFIN:=zh hfin
   clear hr0 hld hA hG hGs hGo hfin hm hne
   go_wp2_with (first | (refine wpList_load_all zr 150 _ zr _ zr _ Tryz.underlying150 zr _ _ HA.out (by rw [HGS.out];exact infoSt) ?_) | (refine wpList_store_all zr 150 _ _ zr zr _ _ zr zr (by rw [HGS.out];exact infoSt) _ _ HI.out.z (by rw [HGS.out,Zst_size]) HGO.out ?_))
   try simp only [Exit.inBlock,Exit.then]
   refine ret_row zr (w.heap.size+1) 150 G _ zr (HI.out.z.row G) Tryz.underlying150 zr (by rw [HGS.out];exact infoSt) ?_
   exact ⟨by rw [HFIN.out],below_row HI.out.b (by omega) G⟩
  ·obtain ⟨bb,oo,ha,hbb,hce⟩:=HCE.out (by intro e;rw [e] at hm;exact hne hm)
   subst ha
   have hpos:(0:Int) < (m:Int):=by omega
   have hp:=HOK.out.a
   obtain ⟨p,hpp⟩:∃ p,p=F.at':=⟨_,rfl⟩
   rw [←hpp] at hp ⊢
   have HP:=zh hpp;have HCC:=zh hce
   clear hpp hce hne
   obtain ⟨k,hk⟩:∃ k,k=min (64 - p) m:=⟨_,rfl⟩
   have hkm:k≤m:=by omega
   have hk0:0 < k:=by omega
   obtain ⟨c,hc⟩:∃ c,c=rest.take k:=⟨_,rfl⟩
   have hcl:c.length=k:=by rw [hc,List.length_take];omega
   obtain ⟨cs,hcs⟩:∃ cs,cs=u8s c:=⟨_,rfl⟩
   have hcsl:cs.length=k:=by rw [hcs,u8s_length,hcl]
   have hn:cs.length=Nat.min m (64 - p):=by rw [hcsl,hk];exact Nat.min_comm _ _
   have hsrc:∀ j v,cs[j]?=some v→wr.cell? ((⟨bb,oo,none⟩:Addr).add j)=some v:=fun j v hv=>by
    have hj:j < cs.length:=(List.getElem?_eq_some_iff.1 hv).1
    rw [Addr.add_mid,HI.out.b.cell (p:=⟨bb,oo+j,none⟩) hbb,HCC.out j (by rw [←HMM.out];omega),←hv,hcs,u8s_get c j (by omega),hc]
    simp [List.getD_eq_getElem?_getD,show j < k by omega]
   have h1:∀ v∈cs,v.oneCell'=true:=by rw [hcs];intro v hv;simp only [u8s,List.mem_map] at hv;obtain ⟨_,_,rfl⟩:=hv;rfl
   obtain ⟨E,hE⟩:∃ E,E=stRow F.H (lay F.T p c) N:=⟨_,rfl⟩
   have hsp:Mem.splice (stRow F.H F.T N) (8+p) cs=E:=by rw [hcs,hE];exact stRow_putT HOK.out.h HOK.out.t p c (by omega)
   have hfit:8+p+cs.length≤(stRow F.H F.T N).size:=by rw [stRow_size HOK.out.h HOK.out.t];omega
   obtain ⟨C0,hC0⟩:∃ C0,C0=stRow F.H F.T N:=⟨_,rfl⟩
   have hAc:=HI.out.c
   rw [←hC0] at hAc hsp hfit
   have hlt:(lay F.T p c).length=64:=by rw [lay_length _ _ _ (by rw [HOK.out.t];omega),HOK.out.t]
   have hnext:WRel s l N w (.slice (none:Option Addr) 0 0) (.int .i64 0) wr∨True:=Or.inr trivial
   clear hnext
   have HK:=zh hk;have HC':=zh hc;have HCL:=zh hcl;have HCS:=zh hcs;have HCSL:=zh hcsl;have HN':=zh hn;have HSRC:=zh hsrc;have H1:=zh h1;have HE:=zh hE;have HSP:=zh hsp;have HFIT:=zh hfit;have HC0:=zh hC0;have HAC:=zh hAc;have HLT:=zh hlt
   have hk64:p+k≤64:=by omega
   have hkm':¬ p+k=64→k=m:=by omega
   clear hk hc hcl hcs hcsl hn hsrc h1 hE hsp hfit hC0 hAc hlt hm
   by_cases hfull:p+k=64
   ·have hb:(((p:Int)+(k:Int)) == 64)=true:=by rw [beq_iff_eq];omega
    clear hkm'
    have HFULL:=zh hfull
    have hOK:=HOK.out
    have hE2:E.extract 0 (0+8)=(u32s F.H).toArray:=by rw [HE.out];exact stRow_H hOK.h
    have hE3:E.extract 8 (8+64)=(u8s (lay F.T p c)).toArray:=by rw [HE.out];exact stRow_T hOK.h HLT.out
    have hEs:E.size=73:=by rw [HE.out];exact stRow_size hOK.h HLT.out
    obtain ⟨J,hJ⟩:∃ J,J=addB F.H (lay F.T p c):=⟨_,rfl⟩
    have hJl:J.length=8:=by rw [hJ];exact addB_length _ _ hOK.h
    obtain ⟨G,hG⟩:∃ G,G=stRow J (lay F.T p c) N:=⟨_,rfl⟩
    obtain ⟨Q2,hQ2⟩:∃ Q2,Q2=stRow J zs64 N:=⟨_,rfl⟩
    have hGs:G.size=73:=by rw [hG];exact stRow_size hJl HLT.out
    have hput:Mem.splice E 0 (u32s J).toArray.toList=G:=by rw [HE.out,hG];exact stRow_putH hOK.h hJl
    have hput2:Mem.splice G 8 ZT.toList=Q2:=by
     have:=stRow_putT (n:=N) hJl HLT.out 0 zs64 (by simp [zs64])
     rw [hG,hQ2]
     have e:lay (lay F.T p c) 0 zs64=zs64:=by
      have h1:zs64.length=64:=by simp [zs64]
      show (lay F.T p c).take 0++zs64++(lay F.T p c).drop (0+zs64.length)=zs64
      rw [h1,List.drop_of_length_le (by rw [HLT.out];decide)];simp
     rw [e] at this
     exact this
    have hJs:(u32s J).toArray.size=8:=by simp [u32s,hJl]
    have hJo:=u32s_one J
    obtain ⟨JR,hJR⟩:∃ JR,JR=(u32s J).toArray:=⟨_,rfl⟩
    rw [←hJR] at hput hJs hJo
    have hadd:∀ wx,Tabs wx→Calls Tryz.prog 122 #[.agg (u32s F.H).toArray,.agg (u8s (lay F.T p c)).toArray] wx fun e w'=>e=.returned (.agg JR)∧Below wx.heap.size wx w':=fun wx hx=>by
     rw [hJR,hJ];exact addBlock_any F.H (lay F.T p c) hOK.h HLT.out wx hx
    obtain ⟨FR,hFR⟩:∃ FR,FR=(u32s F.H).toArray:=⟨_,rfl⟩
    obtain ⟨TR,hTR⟩:∃ TR,TR=(u8s (lay F.T p c)).toArray:=⟨_,rfl⟩
    rw [←hFR,←hTR] at hadd
    rw [←hFR] at hE2
    rw [←hTR] at hE3
    obtain ⟨Y,hY⟩:∃ Y,Y=ZT:=⟨_,rfl⟩
    rw [←hY] at hput2
    have hYs:Y.size=64:=by rw [hY];exact ZT_size
    have hYo:Y.all (·.oneCell')=true:=by rw [hY];exact u8s_one _
    have htab:∀ wx,Below w.heap.size w wx→Tabs wx:=fun wx hx=>HLT'.out.below hx (Nat.le_refl _)
    have HE2:=zh hE2;have HE3:=zh hE3;have HES:=zh hEs;have HJ:=zh hJ;have HG:=zh hG;have HGS:=zh hGs;have HPUT:=zh hput;have HPUT2:=zh hput2;have HJS:=zh hJs;have HJO:=zh hJo;have HADD:=zh hadd;have HYD:=zh hY;have HYS:=zh hYs;have HYO:=zh hYo;have HTAB:=zh htab;have HQ2:=zh hQ2;have HJL:=zh hJl
    clear hOK hE2 hE3 hEs hJ hG hGs hput hput2 hJs hJo hadd hYs hYo htab hQ2 hJl hJR hFR hTR hY hfull
    go_wp2_with (first | (refine wpList_slice_arr zr 148 _ _ zr 64 5 Tryz.underlying148 infoB _ 8 p zr zr hp ?_) | (refine wpList_copy_at zr _ _ 40 40 zr 5 Tryz.underlying40 infoB w.heap.size (8+p) (64 - p) (64 - p) ⟨bb,oo,none⟩ m cap zr zr cs HN'.out HSRC.out H1.out C0 _ HAC.out HFIT.out E HSP.out k HCSL.out ?_;intro w4 a4 s4 o4 b4;have A4:=zh a4;have S4:=zh s4;have B4:=zh b4;have O4:=zh o4;clear a4 s4 o4 b4) | (refine wpList_slice_low zr 40 _ _ zr 5 Tryz.underlying40 infoB (some ⟨bb,oo,none⟩) m cap k zr zr hkm ?_;intro a1 ha1;have HA1:=zh ha1;clear ha1) | (refine wpList_load_is zr 147 _ zr w.heap.size 0 8 zr _ Tryz.underlying147 zr info8 E _ A4.out (by rw [HES.out];decide) FR HE2.out ?_) | (refine wpList_load_is zr 148 _ zr w.heap.size 8 64 zr _ Tryz.underlying148 zr info64b E _ A4.out (by rw [HES.out];decide) TR HE3.out ?_) | (go_at_call 122;refine (HADD.out _ (HTAB.out _ (B4.out _ _ HI.out.b (Nat.le_refl _)))).mono ?_;rintro e w5 ⟨rfl,hb5⟩;have a5:=A4.out.below hb5 A4.out.lt;have A5:=zh a5;have HB5:=zh hb5;clear a5 hb5) | (refine wpList_store_is zr 147 _ _ zr zr w.heap.size 0 JR zr zr (by rw [HJS.out];exact info8) E _ A5.out (by rw [HES.out,HJS.out];decide) HJO.out G HPUT.out ?_;intro w6 a6 s6 o6 b6;have A6:=zh a6;have O6:=zh o6;have B6:=zh b6;clear a6 s6 o6 b6) | (refine wpList_store_is zr 148 _ _ zr zr w.heap.size 8 Y zr (by rw [HYD.out];rfl) (by rw [HYS.out];exact info64b) G _ A6.out (by rw [HGS.out,HYS.out];decide) HYO.out Q2 HPUT2.out ?_;intro w7 a7 s7 o7 b7;have A7:=zh a7;have O7:=zh o7;have B7:=zh b7;clear a7 s7 o7 b7))
    go_roundw
    case rel=>
     have e1:feeds F c=⟨addB F.H (lay F.T F.at' c),zs64,0⟩:=feeds_full c F HOK.out.t (by rw [←HP.out];exact hp) (by rw [←HP.out,HCL.out];exact HFULL.out)
     refine ⟨done++c,rest.drop k,?_,sl_drop HMM.out hkm hcap hbb HCC.out HA1.out,?_,?_⟩
     ·rw [HL.out,HC'.out,List.append_assoc,List.take_append_drop]
     ·rw [feeds_append,←HF.out,e1];rfl
     ·rw [feeds_append,←HF.out,e1]
      have a7:=A7.out
      rw [HQ2.out,HJ.out,HP.out] at a7
      have z4:=at_keep HI.out.z O4.out (show w.heap.size+1≠w.heap.size by omega)
      have z5:=z4.below HB5.out z4.lt
      have z6:=at_keep z5 O6.out (show w.heap.size+1≠w.heap.size by omega)
      have b4:=B4.out _ _ HI.out.b (Nat.le_refl _)
      have b5:=b4.trans (HB5.out.mono (Nat.le_of_lt A4.out.lt))
      exact ⟨a7,at_keep z6 O7.out (by omega),B7.out _ _ (B6.out _ _ b5 (Nat.le_refl _)) (Nat.le_refl _)⟩
    case measure=>simp [lenOf];omega
   ·have hb:(((p:Int)+(k:Int)) == 64)=false:=by rw [beq_eq_false_iff_ne];omega
    have hkm2:=zh (hkm' hfull)
    clear hkm'
    go_wp2_with (first | (refine wpList_slice_arr zr 148 _ _ zr 64 5 Tryz.underlying148 infoB _ 8 p zr zr hp ?_) | (refine wpList_copy_at zr _ _ 40 40 zr 5 Tryz.underlying40 infoB w.heap.size (8+p) (64 - p) (64 - p) ⟨bb,oo,none⟩ m cap zr zr cs HN'.out HSRC.out H1.out C0 _ HAC.out HFIT.out E HSP.out k HCSL.out ?_;intro w4 a4 s4 o4 b4;have A4:=zh a4;have S4:=zh s4;have B4:=zh b4;have O4:=zh o4;clear a4 s4 o4 b4) | (refine wpList_slice_low zr 40 _ _ zr 5 Tryz.underlying40 infoB (some ⟨bb,oo,none⟩) m cap k zr zr hkm ?_;intro a1 ha1;have HA1:=zh ha1;clear ha1))
    go_roundw
    case rel=>
     have e1:feeds F c=⟨F.H,lay F.T F.at' c,F.at'+c.length⟩:=feeds_part c F HOK.out.t (by rw [←HP.out,HCL.out];omega)
     refine ⟨done++c,rest.drop k,?_,sl_drop HMM.out hkm hcap hbb HCC.out HA1.out,?_,?_⟩
     ·rw [HL.out,HC'.out,List.append_assoc,List.take_append_drop]
     ·rw [feeds_append,←HF.out,e1,←HP.out,HCL.out];simp
     ·rw [feeds_append,←HF.out,e1]
      have a4:=A4.out
      rw [HE.out,HP.out] at a4
      exact ⟨a4,at_keep HI.out.z O4.out (by omega),B4.out _ _ HI.out.b (Nat.le_refl _)⟩
    case measure=>simp [lenOf];omega
def sameB (l m:Lb8):Bool:=l == m
theorem sameB_self (l:Lb8):sameB l l=true:=by simp [sameB]
theorem sameB_len (l m:Lb8) (h:l.length≠m.length):sameB l m=false:=by
 unfold sameB
 rw [Bool.eq_false_iff]
 intro e
 exact h (by rw [beq_iff_eq.1 e])
theorem B8_inj {x y:BitVec 8} (h:B8 x=B8 y):x=y:=by
 unfold B8 at h
 exact BitVec.eq_of_toNat_eq (by omega)
theorem sameB_at (l m:Lb8) (j:Nat) (h:l.getD j 0≠m.getD j 0):sameB l m=false:=by
 unfold sameB
 rw [Bool.eq_false_iff]
 intro e
 exact h (by rw [beq_iff_eq.1 e])
theorem take_next (l m:Lb8) (j:Nat) (h1:j < l.length) (h2:j < m.length) (h:l.take j=m.take j) (hx:l.getD j 0=m.getD j 0):l.take (j+1)=m.take (j+1):=by
 have e1:l.getD j 0=l[j]:=by simp [h1]
 have e2:m.getD j 0=m[j]:=by simp [h2]
 rw [List.take_succ_eq_append_getElem h1,List.take_succ_eq_append_getElem h2,h,←e1,←e2,hx]
end Sha
end Go.Proofs.YtddjdaocdfkgeaaGreatDoor
namespace Go.Proofs.YtddjdaocdfkgeaaGreatDoor
namespace Sha
open Go.RowKit Mem
theorem own_ne_at {w:World} {B b z n:Nat} {e t:TypeId} {v:Value} {xs:List Value} {C:Array Value} (h:w.ownsRow B e z v n xs) (hC:At w b C t) (ht:t≠e):v.ownBlock≠some b:=by
 rcases h.2 with ⟨rfl,_⟩ | ⟨g,cap,cur,rfl,hg,hh,hr⟩
 ·simp [Value.ownBlock]
 ·intro e
  have:g=b:=by simpa [Value.ownBlock] using e
  subst this
  unfold At at hC
  rw [hh] at hC
  injection hC with hC
  injection hC with _ h2
  exact ht h2.symm
structure App (w w1:World) (v v':Value):Prop where
 size:w.heap.size≤w1.heap.size
 k:∀ k,k < w.heap.size→v.ownBlock≠some k→w1.heap[k]?=w.heap[k]?
 b:v'.ownBlock=v.ownBlock∨∃ g,v'.ownBlock=some g∧w.heap.size≤g
theorem own_none {e:TypeId} {z:Nat} (w:World) (B:Nat) (hB:B≤w.heap.size):(w.alloc (.cells #[] e)).ownsRow B e z (.slice (some ⟨w.heap.size,0,none⟩) 0 0) 0 []:=World.ownsRow_made w #[] 0 hB (Nat.zero_le _) (by simp)
theorem App.after {w w0 w1:World} {v v':Value} (h:App w0 w1 v v') (hb:Below w.heap.size w w0):App w w1 v v':=
 ⟨Nat.le_trans hb.size h.size,fun k hk hn=>(h.k k (Nat.lt_of_lt_of_le hk hb.size) hn).trans (hb.block k hk),h.b.imp id fun ⟨g,e,hg⟩=>⟨g,e,Nat.le_trans hb.size hg⟩⟩
theorem App.chg {F:Foot} {w w1:World} {v v':Value} (h:App w w1 v v') (hb:Below 0 w w1) (hF:∀ k,v.ownBlock=some k→F k):Chg F w w1:=
 ⟨hb.os,hb.tape,hb.output,h.size,fun k hk hn=>h.k k hk fun e=>hn (hF k e)⟩
theorem at_appd {w w1:World} {b:Nat} {C:Array Value} {t:TypeId} {v v':Value} (h:At w b C t) (ha:App w w1 v v') (hne:v.ownBlock≠some b):At w1 b C t:=Sha.At.app h ha.k hne
section
variable {P:Program} {w:World} {B:Nat} {e:TypeId} {v:Value} {xs:List Value}
theorem run_append_app {t ty:TypeId} {zv vx:Value} {n m z:Nat} {ys:List Value} {bytes:Nat} (he:elemR P t e zv z bytes) (hzv:zv.cells.size=z) (hz0:0 < z) (hown:w.ownsRow B e z v n xs) (hrd:RdR w z vx m ys) (h1:∀ u∈ys,u.oneCell'=true) (hlen:(n+m)*bytes≤140737488355328) (hl2:n+m < 140737488355328) (hB:B≤w.heap.size) :
 ∃ v' w',(Builtin.append_ #[t,t] ty #[v,vx]).run P w=.ok v' w'∧w'.ownsRow B e z v' (n+m) (xs++ys)∧App w w' v v'∧Below B w w':=by
 obtain ⟨i0,hi,hzz,hs,hb⟩:=info_parts he.2
 obtain ⟨hyl,a0,cap,rfl,hr⟩:=hrd
 have hml:140737488355328≤maxLen:=by simp [maxLen]
 have hlt:∀ g,v.ownBlock=some g→B≤g:=fun g hg=>(World.ownsRow.lt hown g hg).1
 have fin:∀ {v':Value} {w':World},w.grownBy w' v.ownBlock→(v'.ownBlock=v.ownBlock∨v'.ownBlock=some w.heap.size)→App w w' v v'∧Below B w w':=fun h3 h5=>
  ⟨⟨h3.size,fun k hk hne=>h3.block k hk (fun e=>hne e.symm),h5.imp id fun h=>⟨_,h,Nat.le_refl _⟩⟩,(Below.refl _ _).grown h3 hB hlt⟩
 by_cases hne:m=0
 ·subst hne
  have hys:ys=[]:=List.eq_nil_of_length_eq_zero (by simpa using hyl)
  subst hys
  cases a0 with
  | none=>
   refine ⟨v,w,?_,by simpa using hown,fin (World.grownBy.refl w _) (.inl rfl)⟩
   rcases hown.2 with ⟨rfl,rfl⟩ | ⟨g,cap',cur,rfl,_,_,hn,_⟩
   ·simp [Builtin.append_,run_underlying he.1,sizeOf,typeInfo,hi,Builtin.lenOf,Builtin.firstCells]
   ·simp [Builtin.append_,run_underlying he.1,sizeOf,typeInfo,hi,Builtin.lenOf,Builtin.firstCells,hn,storeCells]
  | some ad=>
   obtain ⟨v',w',hrun,h2,h3,_,h5⟩:=run_append_own_at (P:=P) w B t ty e i0 zv z bytes he.1 hi hzz hs hb hzv hz0 v n xs hown ad 0 cap [] (by simp) (fun j u hu=>by simp at hu) (fun u hu=>by simp at hu) (by omega) (by simpa using hlen) hB
   exact ⟨v',w',hrun,h2,fin h3 h5⟩
 ·obtain ⟨ad,rfl,hc⟩:=hr hne
  obtain ⟨v',w',hrun,h2,h3,_,h5⟩:=run_append_own_at (P:=P) w B t ty e i0 zv z bytes he.1 hi hzz hs hb hzv hz0 v n xs hown ad m cap ys hyl hc h1 (by omega) hlen hB
  exact ⟨v',w',hrun,h2,fin h3 h5⟩
theorem wpList_append_app {ops:Array Oper} {rest:List Oper} {o:Oper} {a:Act} {Q:Exit→Act→World→Prop} (hgd:o.guard=none) (s x:Operand) (t:TypeId) (ho:o.op=.call { callee:=.builtin .append,args:=#[s,x],argTypes:=#[t,t] })
 (vx:Value) (n m z:Nat) (ys:List Value) (zv:Value) (bytes:Nat) (he:elemR P t e zv z bytes) (hzv:zv.cells.size=z) (hz0:0 < z) (hs:a.eval s=v) (hown:w.ownsRow B e z v n xs) (hx:a.eval x=vx) (hrd:RdR w z vx m ys) (h1:∀ u∈ys,u.oneCell'=true) (hlen:(n+m)*bytes≤140737488355328) (hl2:n+m < 140737488355328) (hB:B≤w.heap.size)
 (h:∀ v' w',w'.ownsRow B e z v' (n+m) (xs++ys)→App w w' v v'→Below B w w'→wpList P ops Q rest (a.put o.dst v') w') :
 wpList P ops Q (o::rest) a w:=by
 refine wpList_plain hgd fun K hK=>?_
 obtain ⟨v',w',hrun,h2,h3,h4⟩:=run_append_app (P:=P) (ty:=o.type) he hzv hz0 hown hrd h1 hlen hl2 hB
 unfold Oper.wp execOp
 simp only [ho,resolve,invoke,builtin,Sem.run_bind,Sem.run_pure,Result.andThen_ok,List.map_toArray,List.map_cons,List.map_nil,hs,hx,hrun]
 exact hK _ _ (h v' w' h2 h3 h4)
theorem plan_append_app {ops:Array Oper} {o:Oper} {a:Act} {Q:Exit→Act→World→Prop} {S:World→Prop} {i:Nat} {r:Plan} (s x:Operand) (t:TypeId) (ho:ops.toList[i]?=some o) (hw:Region.wanted o (yielded ops a.tmps)=true) (hop:o.op=.call { callee:=.builtin .append,args:=#[s,x],argTypes:=#[t,t] })
 (vx:Value) (n m z:Nat) (ys:List Value) (zv:Value) (bytes:Nat) (he:elemR P t e zv z bytes) (hzv:zv.cells.size=z) (hz0:0 < z) (hs:a.eval s=v) (hown:w.ownsRow B e z v n xs) (hx:a.eval x=vx) (hrd:RdR w z vx m ys) (h1:∀ u∈ys,u.oneCell'=true) (hlen:(n+m)*bytes≤140737488355328) (hl2:n+m < 140737488355328) (hB:B≤w.heap.size)
 (h:∀ v' w',w'.ownsRow B e z v' (n+m) (xs++ys)→App w w' v v'→Below B w w'→S w'∧wpPlan P ops Q S r (a.put o.dst v') w') :
 wpPlan P ops Q S (.sole i r) a w:=by
 refine wpOp_at ho hw ?_
 obtain ⟨v',w',hrun,h2,h3,h4⟩:=run_append_app (P:=P) (ty:=o.type) he hzv hz0 hown hrd h1 hlen hl2 hB
 unfold Oper.wp execOp
 simp only [hop,resolve,invoke,builtin,Sem.run_bind,Sem.run_pure,Result.andThen_ok,List.map_toArray,List.map_cons,List.map_nil,hs,hx,hrun]
 exact h v' w' h2 h3 h4
end
theorem rows_hd {w:World} {B:Nat} {e:TypeId} {z n:Nat} {v:Value} {xs:List Value} (h:w.ownsRow B e z v n xs):∃ a c,v=.slice a n c:=by
 obtain ⟨_,a,c,e,_⟩:=ownsRow_slR h
 exact ⟨a,c,e⟩
end Sha
end Go.Proofs.YtddjdaocdfkgeaaGreatDoor
namespace Go.Proofs.YtddjdaocdfkgeaaGreatDoor
namespace Mem
open Go.RowKit
section
variable {P:Program} {ops:Array Oper} {Q:Exit→Act→World→Prop} {S:World→Prop} {w:World} {a:Act} {o:Oper} {i:Nat} {r:Plan}
theorem plan_nilcheck (x:Operand) (p:Addr) (ho:ops.toList[i]?=some o) (hw:Region.wanted o (yielded ops a.tmps)=true) (hop:o.op=.nilCheck x) (hx:a.eval x=.pointer (some p))
 (h:wpPlan P ops Q S r (a.put o.dst (.pointer (some p))) w):wpPlan P ops Q S (.take i r) a w:=
 plan_take _ ho hw (fun w' _=>by simp [execOp,hop,hx]) h
theorem plan_index_z (t e:TypeId) (x ix:Operand) (g off n c z:Nat) (k:Nat) (ho:ops.toList[i]?=some o) (hw:Region.wanted o (yielded ops a.tmps)=true) (hop:o.op=.indexAddr t x ix)
 (hx:a.eval x=.slice (some ⟨g,off,none⟩) n c) (hi:a.eval ix=.int .i64 (k:Int)) (hk:k < n) (hu:P.underlying t=some (.slice e)) (hs:(P.info? e).map (·.size)=some z)
 (h:wpPlan P ops Q S r (a.put o.dst (.pointer (some ⟨g,off+k*z,none⟩))) w):wpPlan P ops Q S (.take i r) a w:=
 plan_take _ ho hw (fun w' _=>by
  cases hq:P.info? e with
  | none=>simp [hq] at hs
  | some q=>
   have hs1:q.size=z:=by simpa [hq] using hs
   simp [execOp,hop,hx,hi,Instr.indexAt,asIntOf,Sem.run_bind,run_underlying hu,sizeOf,typeInfo,hq,hs1,hk,Addr.add]) h
theorem plan_sole_val (v:Value) (ho:ops.toList[i]?=some o) (hw:Region.wanted o (yielded ops a.tmps)=true) (hv:(execOp a.eval o).run P w=.ok (.value v) w) (hS:S w)
 (h:wpPlan P ops Q S r (a.put o.dst v) w):wpPlan P ops Q S (.sole i r) a w:=by
 refine wpOp_at ho hw ?_
 unfold Oper.wp
 rw [hv]
 exact ⟨hS,h⟩
theorem plan_sole_cell (t:TypeId) (x:Operand) (p:Addr) (v:Value) (d:TypeDesc) (ho:ops.toList[i]?=some o) (hw:Region.wanted o (yielded ops a.tmps)=true) (hop:o.op=.load t x)
 (hx:a.eval x=.pointer (some p)) (hc:w.cell? p=some v) (hu:P.underlying t=some d) (hd:d.isRow=false) (hS:S w)
 (h:wpPlan P ops Q S r (a.put o.dst v) w):wpPlan P ops Q S (.sole i r) a w:=
 plan_sole_val v ho hw (by
  have hagg:(isAgg t).run P w=.ok false w:=by
   unfold isAgg
   rw [Sem.run_bind,run_underlying hu w]
   cases d <;> simp_all
  simp [execOp,hop,hx,Instr.loadAt,Instr.sureAddr,loadVar,Sem.run_bind,hagg,hc]) hS h
end
theorem plan_load_range {P:Program} {ops:Array Oper} {Q:Exit→Act→World→Prop} {S:World→Prop} {w:World} {a:Act} {o:Oper} {i:Nat} {r:Plan} (ty:TypeId) (x:Operand) (b off:Nat) (d:TypeDesc) (R:Array Value) (ho:ops.toList[i]?=some o) (hw:Region.wanted o (yielded ops a.tmps)=true) (hop:o.op=.load ty x) (hx:a.eval x=.pointer (some ⟨b,off,none⟩))
 (hC:∀ w',S w'→w'.rangeAt b off R.toList) (hu:P.underlying ty=some d) (hd:d.isRow=true) (hi:(P.info? ty).map (·.size)=some R.size) (h:wpPlan P ops Q S r (a.put o.dst (.agg R)) w) :
 wpPlan P ops Q S (.take i r) a w:=
 plan_take _ ho hw (fun w' hw'=>by
  have hr:=run_loadAt_mid (P:=P) w' b off ty R.toList d (hC w' hw') hu hd (by rw [hi];simp)
  unfold execOp
  simp only [hop,hx,Sem.run_bind,hr,Result.andThen_ok,Sem.run_pure]) h
theorem plan_not {P:Program} {ops:Array Oper} {Q:Exit→Act→World→Prop} {S:World→Prop} {w:World} {a:Act} {o:Oper} {i:Nat} {r:Plan} (t:TypeId) (x:Operand) (b:Bool) (ho:ops.toList[i]?=some o) (hw:Region.wanted o (yielded ops a.tmps)=true) (hop:o.op=.unOp .not t x)
 (hx:a.eval x=.bool b) (h:wpPlan P ops Q S r (a.put o.dst (.bool (!b))) w):wpPlan P ops Q S (.take i r) a w:=
 plan_take _ ho hw (fun w' _=>by cases b <;> simp [execOp,hop,hx,Op.unary]) h
theorem plan_extract {P:Program} {ops:Array Oper} {Q:Exit→Act→World→Prop} {S:World→Prop} {w:World} {a:Act} {o:Oper} {i:Nat} {r:Plan} (x:Operand) (k:Nat) (vs:Array Value) (v:Value) (ho:ops.toList[i]?=some o) (hw:Region.wanted o (yielded ops a.tmps)=true) (hop:o.op=.extract x k)
 (hx:a.eval x=.tuple vs) (hv:vs[k]?=some v) (h:wpPlan P ops Q S r (a.put o.dst v) w):wpPlan P ops Q S (.take i r) a w:=
 plan_take v ho hw (fun w' _=>by simp [execOp,hop,hx,Instr.extract,hv]) h
end Mem
end Go.Proofs.YtddjdaocdfkgeaaGreatDoor
namespace Go.Proofs.YtddjdaocdfkgeaaGreatDoor
namespace Sha
open Go.RowKit Mem
def iz (l:List Int):List Value:=l.map (.int .i64)
theorem iz_length (l:List Int):(iz l).length=l.length:=by simp [iz]
theorem iz_snoc (l:List Int) (x:Int):iz (l++[x])=iz l++[.int .i64 x]:=by simp [iz]
theorem iz_get (l:List Int) (i:Nat) (h:i < l.length):(iz l)[i]?=some (.int .i64 (l.getD i 0)):=by simp [iz,List.getD_eq_getElem?_getD,h]
def SlI (w:World) (v:Value) (l:List Int):Prop:=
 ∃ a cap,v=.slice a l.length cap∧l.length≤cap∧(l≠[]→∃ b o,a=some ⟨b,o,none⟩∧b < w.heap.size∧∀ i,i < l.length→w.cell? ⟨b,o+i,none⟩=some (.int .i64 (l.getD i 0)))
theorem SlI.nil (w:World):SlI w (.slice none 0 0) []:=⟨none,0,rfl,Nat.le_refl _,fun h=>absurd rfl h⟩
theorem SlI.hd {w:World} {v:Value} {l:List Int} (h:SlI w v l):∃ a c,v=.slice a l.length c:=let ⟨a,c,e,_⟩:=h;⟨a,c,e⟩
theorem SlI.below {w wr:World} {v:Value} {l:List Int} (h:SlI w v l) (hb:Below w.heap.size w wr):SlI wr v l:=by
 obtain ⟨a,cap,e,hc,hr⟩:=h
 refine ⟨a,cap,e,hc,fun hne=>?_⟩
 obtain ⟨b,o,ea,hlt,hcell⟩:=hr hne
 exact ⟨b,o,ea,Nat.lt_of_lt_of_le hlt hb.size,fun i hi=>(hb.cell (p:=⟨b,o+i,none⟩) hlt).trans (hcell i hi)⟩
theorem SlI.same {w wr:World} {v:Value} {l:List Int} (h:SlI w v l) (hs:w.heap.size≤wr.heap.size) (hk:∀ b o n c,v=.slice (some ⟨b,o,none⟩) n c→wr.heap[b]?=w.heap[b]?):SlI wr v l:=by
 obtain ⟨a,cap,e,hc,hr⟩:=h
 refine ⟨a,cap,e,hc,fun hne=>?_⟩
 obtain ⟨b,o,ea,hlt,hcell⟩:=hr hne
 refine ⟨b,o,ea,Nat.lt_of_lt_of_le hlt hs,fun i hi=>?_⟩
 rw [World.cell?_of_block (w:=w) (w':=wr) (a:=⟨b,o+i,none⟩) (hk b o l.length cap (by rw [e,ea]))]
 exact hcell i hi
theorem sli_at {w:World} {a:Option Addr} {n c i:Nat} {l:List Int} (h:SlI w (.slice a n c) l) (hn:n=l.length) (hi:i < n):∃ b o,a=some ⟨b,o,none⟩∧b < w.heap.size∧w.cell? ⟨b,o+i,none⟩=some (.int .i64 (l.getD i 0)):=by
 obtain ⟨a',c',e,_,hr⟩:=h
 obtain ⟨b,o,ea,hlt,hcell⟩:=hr (by intro e0;subst e0;simp at hn;omega)
 injection e with e1 _ _
 subst e1
 exact ⟨b,o,ea,hlt,hcell i (by omega)⟩
theorem sli_cell {w:World} {b o n c i:Nat} {l:List Int} (h:SlI w (.slice (some ⟨b,o,none⟩) n c) l) (hn:n=l.length) (hi:i < n):w.cell? ⟨b,o+i,none⟩=some (.int .i64 (l.getD i 0)):=by
 obtain ⟨b',o',e,_,cx⟩:=sli_at h hn hi
 injection e with e
 injection e with e2 e3 _
 subst e2 e3
 exact cx
theorem ownV_sli {w:World} {B:Nat} {e:TypeId} {v:Value} {l:List Int} (h:OwnV w B e v (iz l)):SlI w v l:=by
 obtain ⟨a,cap,rfl,hc,hr⟩:=OwnV.open h
 rw [iz_length] at hc
 refine ⟨a,cap,by rw [iz_length],hc,fun hne=>?_⟩
 obtain ⟨g,ea,_,hlt,hcell⟩:=hr (by intro e0;exact hne (by simpa [iz] using e0))
 exact ⟨g,0,ea,hlt,fun i hi=>by rw [Nat.zero_add];exact hcell i _ (iz_get l i hi)⟩
def IEnd (w:World) (L:List Int) (e:Ending) (w':World):Prop:=∃ v,e=.returned v∧SlI w' v L∧Below w.heap.size w w'
theorem infoInt:(Tryz.prog.info? 3).map (·.size)=some 1:=by kernel_rfl
end Sha
end Go.Proofs.YtddjdaocdfkgeaaGreatDoor
namespace Go.Proofs.YtddjdaocdfkgeaaGreatDoor
namespace Sha
open Go.RowKit Mem
set_option maxRecDepth 100000
def zL (p:Nat):List Int:=(List.range (itn p)).map fun i=>(lev p i:Int)
theorem zL_length (p:Nat):(zL p).length=itn p:=by simp [zL]
theorem zL_get (p i:Nat) (h:i < itn p):(zL p).getD i 0=(lev p i:Int):=by simp [zL,List.getD_eq_getElem?_getD,h]
def rsC (p:Nat) (vL vF:Value):Array Value:=#[.int .i64 (p:Int),vL,vF]
theorem rsC_one (p:Nat) (a b:Option Addr) (n c m d:Nat):(rsC p (.slice a n c) (.slice b m d)).all (·.oneCell')=true:=by simp [rsC,Value.oneCell']
structure RS (w:World) (p:Nat) (vL vF:Value):Prop where
 l:SlI w vL (zL p)
 f:SlI w vF (fstL p (itn p))
theorem RS.below {w w':World} {p:Nat} {vL vF:Value} (h:RS w p vL vF) (hb:Below w.heap.size w w'):RS w' p vL vF:=⟨h.l.below hb,h.f.below hb⟩
theorem infoRS:(Tryz.prog.info? 47).map (·.size)=some 3:=by kernel_rfl
def inS (p:Nat) (z:Int):Bool:=decide (0≤z∧z < (itn p:Int))
theorem rhas_any (p:Nat) (vL vF:Value) (z:Int) (w:World) (hR:RS w p vL vF):Calls Tryz.prog 61 #[.agg (rsC p vL vF),.int .i64 z] w fun e w'=>e=.returned (.bool (inS p z))∧Below w.heap.size w w':=by
 obtain ⟨aL,cL,rfl⟩:=hR.l.hd
 have hA:=at_new w (rsC p (.slice aL (zL p).length cL) vF) 47
 have hb:Below w.heap.size w (w.alloc (.cells (rsC p (.slice aL (zL p).length cL) vF) 47)):=(Below.refl _ _).alloc (Nat.le_refl _) _
 have c1:(w.alloc (.cells (rsC p (.slice aL (zL p).length cL) vF) 47)).cell? ⟨w.heap.size,1,none⟩=some (.slice aL (zL p).length cL):=(hA.cell 1).trans rfl
 rw [zL_length] at hA hb c1 ⊢
 obtain ⟨M,hM⟩:∃ M,M=rsC p (.slice aL (itn p) cL) vF:=⟨_,rfl⟩
 rw [←hM] at hA hb c1 ⊢
 obtain ⟨n,hn⟩:∃ n,n=itn p:=⟨_,rfl⟩
 obtain ⟨w1,hw1⟩:∃ w1,w1=w.alloc (.cells M 47):=⟨_,rfl⟩
 unfold inS
 rw [←hn] at c1 ⊢
 rw [←hw1] at c1 hb
 have HB:=zh hb
 clear hA hb hM hn
 by_cases h0:0≤z
 ·by_cases h1:z < (n:Int)
  ·rw [decide_eq_true (show 0≤z∧z < (n:Int) from ⟨h0,h1⟩)]
   go_enter Tryz.func61,Tryz.ntmps61
   go_upto_region 1 with fail
   rw [←hw1]
   clear hw1
   go_wp2_with fail
   go_ret
   exact ⟨rfl,HB.out⟩
  ·rw [decide_eq_false (show ¬ (0≤z∧z < (n:Int)) from fun h=>h1 h.2)]
   go_enter Tryz.func61,Tryz.ntmps61
   go_upto_region 1 with fail
   rw [←hw1]
   clear hw1
   go_wp2_with fail
   go_ret
   exact ⟨rfl,HB.out⟩
 ·rw [decide_eq_false (show ¬ (0≤z∧z < (n:Int)) from fun h=>h0 h.1)]
  go_enter Tryz.func61,Tryz.ntmps61
  go_upto_region 1 with fail
  rw [←hw1]
  clear hw1
  go_wp2_with fail
  go_ret
  exact ⟨rfl,HB.out⟩
def kz (p i n:Nat):List Int:=(List.range n).map fun t=>((fst p i+t:Nat):Int)
theorem kz_length (p i n:Nat):(kz p i n).length=n:=by simp [kz]
theorem kz_succ (p i n:Nat):kz p i (n+1)=kz p i n++[((fst p i+n:Nat):Int)]:=by simp [kz,List.range_succ]
theorem kz_get (p i n t:Nat) (h:t < n):(kz p i n).getD t 0=((fst p i+t:Nat):Int):=by simp [kz,List.getD_eq_getElem?_getD,h]
def KZ (p:Nat) (z:Int):List Int:=if (p:Int)≤z∧z < (itn p:Int) then kz p z.toNat (many p z.toNat) else []
theorem elemInt:elemB Tryz.prog 45 3 (.int .i64 0) 8:=⟨Tryz.underlying45,by kernel_rfl⟩
theorem o_ilt {P:Program} (p q:Int) (r:Bool) (h:decide (p < q)=r) (t t2:TypeId) (x y:Operand) (w:World):(do eqGuard .lss t x y (.int .i64 p) (.int .i64 q);binOp .lss t2 (.int .i64 p) (.int .i64 q):Sem Value).run P w=.ok (.bool r) w:=by
 subst h;go_simp
theorem o_ieqd {P:Program} (p q:Int) (r:Bool) (h:decide (p=q)=r) (t t2:TypeId) (x y:Operand) (w:World):(do eqGuard .eql t x y (.int .i64 p) (.int .i64 q);binOp .eql t2 (.int .i64 p) (.int .i64 q):Sem Value).run P w=.ok (.bool r) w:=by
 by_cases e:p=q
 ·subst e;rw [←h,decide_eq_true rfl];exact o_ieq _ _ _ _ _ _
 ·rw [←h,decide_eq_false e];exact o_ieqf _ _ e _ _ _ _ _
structure KI (B f n0:Nat) (p i:Nat) (vo:Value) (w1 wr:World) (j:Nat):Prop where
 o:OwnV wr B 3 vo (iz (kz p i j))
 b:Below w1.heap.size w1 wr
theorem rkids_none (p:Nat) (vL vF:Value) (z:Int) (w:World) (hR:RS w p vL vF) (h:¬ ((p:Int)≤z∧z < (itn p:Int))):Calls Tryz.prog 39 #[.agg (rsC p vL vF),.int .i64 z] w (IEnd w []):=by
 have hhas:=fun wx h=>rhas_any p vL vF z wx h
 obtain ⟨aF,cF,rfl⟩:=hR.f.hd
 have hA:=at_new w (rsC p vL (.slice aF (fstL p (itn p)).length cF)) 47
 have hb:Below w.heap.size w (w.alloc (.cells (rsC p vL (.slice aF (fstL p (itn p)).length cF)) 47)):=(Below.refl _ _).alloc (Nat.le_refl _) _
 have c2:(w.alloc (.cells (rsC p vL (.slice aF (fstL p (itn p)).length cF)) 47)).cell? ⟨w.heap.size,2,none⟩=some (.slice aF (fstL p (itn p)).length cF):=(hA.cell 2).trans rfl
 have hR1:=hR.below hb
 rw [fstL_length] at *
 have hf:=hR1.f
 obtain ⟨n,hn⟩:∃ n,n=itn p:=⟨_,rfl⟩
 have ms:(rsC p vL (.slice aF (itn p) cF)).size=3:=rfl
 obtain ⟨M,hM⟩:∃ M,M=rsC p vL (.slice aF (itn p) cF):=⟨_,rfl⟩
 rw [←hM] at hhas hA hb c2 hR1 hf ms ⊢
 obtain ⟨w1,hw1⟩:∃ w1,w1=w.alloc (.cells M 47):=⟨_,rfl⟩
 rw [←hw1] at hA c2 hb hR1 hf
 rw [←hn] at hf c2 h
 have hin:inS p z=decide (0≤z∧z < (n:Int)):=by rw [hn];rfl
 rw [hin] at hhas
 have HAS:=zh (hhas w1 hR1);have AX:=zh hA;have HB:=zh hb;have MS:=zh ms
 by_cases hz:0≤z∧z < (n:Int)
 ·rw [decide_eq_true hz] at HAS
  obtain ⟨i,rfl⟩:∃ i:Nat,z=(i:Int):=⟨z.toNat,by omega⟩
  have hip:i < p:=by omega
  obtain ⟨bF,oF,e,hlt,cx⟩:=sli_at (i:=i) hf (by rw [fstL_length]) (by omega)
  rw [fstL_get p _ i (by omega),show fstZ p i=-1 from if_pos hip] at cx
  subst e
  have hin2:(i:Int) < (n:Int):=by omega
  have CX:=zh cx;have C2:=zh c2;have LTF:=zh hlt
  clear hhas hA hb c2 hR1 hf ms hM hR h hz hip hn hin cx hlt
  go_enter Tryz.func39,Tryz.ntmps39
  go_upto_region 1 with fail
  rw [←hw1]
  clear hw1
  go_wp2_with (refine wpList_load_all zr 47 _ zr w.heap.size zr _ Tryz.underlying47 zr M _ AX.out (by rw [MS.out];exact infoRS) ?_)
  refine HAS.out.mono ?_
  rintro e w2 ⟨rfl,hb2⟩
  have c2:=(hb2.cell (p:=⟨w.heap.size,2,none⟩) AX.out.lt).trans C2.out
  have cx:=(hb2.cell (p:=⟨bF,oF+i,none⟩) LTF.out).trans CX.out
  have B2:Hid (Below w.heap.size w w2):=zh (HB.out.trans (hb2.mono HB.out.size))
  clear hb2 HAS
  go_wp2_with fail
  go_ret
  exact ⟨_,rfl,SlI.nil _,B2.out⟩
 ·rw [decide_eq_false hz] at HAS
  clear hhas hA hb c2 hR1 hf ms hM hR h hz hn hin
  go_enter Tryz.func39,Tryz.ntmps39
  go_upto_region 1 with fail
  rw [←hw1]
  clear hw1
  go_wp2_with (refine wpList_load_all zr 47 _ zr w.heap.size zr _ Tryz.underlying47 zr M _ AX.out (by rw [MS.out];exact infoRS) ?_)
  refine HAS.out.mono ?_
  rintro e w2 ⟨rfl,hb2⟩
  have B2:Hid (Below w.heap.size w w2):=zh (HB.out.trans (hb2.mono HB.out.size))
  clear hb2 HAS
  go_wp2_with fail
  go_ret
  exact ⟨_,rfl,SlI.nil _,B2.out⟩
theorem rkids_some (p:Nat) (vL vF:Value) (i:Nat) (w:World) (hR:RS w p vL vF) (h0:1≤p) (h1:p≤216) (hi:p≤i) (hit:i < itn p):Calls Tryz.prog 39 #[.agg (rsC p vL vF),.int .i64 (i:Int)] w (IEnd w (kz p i (many p i))):=by
 have hhas:=fun wx h=>rhas_any p vL vF (i:Int) wx h
 obtain ⟨aF,cF,rfl⟩:=hR.f.hd
 obtain ⟨aL,cL,rfl⟩:=hR.l.hd
 rw [zL_length,fstL_length] at *
 obtain ⟨bL,oL,e,hltL,_⟩:=sli_at (i:=i) hR.l (by rw [zL_length]) hit
 subst e
 obtain ⟨bF,oF,e,hltF,_⟩:=sli_at (i:=i) hR.f (by rw [fstL_length]) hit
 subst e
 have hLc:∀ wx,Below w.heap.size w wx→∀ q,q < itn p→wx.cell? ⟨bL,oL+q,none⟩=some (.int .i64 (lev p q:Int)):=fun wx hb q hq=>by
  rw [sli_cell (i:=q) (hR.l.below hb) (by rw [zL_length]) hq,zL_get p q hq]
 have hFc:∀ wx,Below w.heap.size w wx→wx.cell? ⟨bF,oF+i,none⟩=some (.int .i64 ((fst p i:Nat):Int)):=fun wx hb=>by
  rw [sli_cell (i:=i) (hR.f.below hb) (by rw [fstL_length]) hit,fstL_get p _ i hit,show fstZ p i=((fst p i:Nat):Int) from if_neg (by omega)]
 have hbig:=(itn_big p h0 h1).2
 have hkc:=fun j=>kids_cond p i j h0 h1 hi hit
 have hm6:=many_le p i
 have hin:inS p (i:Int)=true:=decide_eq_true ⟨by omega,by omega⟩
 rw [hin] at hhas
 obtain ⟨n,hn⟩:∃ n,n=itn p:=⟨_,rfl⟩
 have hA:=at_new w (rsC p (.slice (some ⟨bL,oL,none⟩) (itn p) cL) (.slice (some ⟨bF,oF,none⟩) (itn p) cF)) 47
 have hb:Below w.heap.size w (w.alloc (.cells (rsC p (.slice (some ⟨bL,oL,none⟩) (itn p) cL) (.slice (some ⟨bF,oF,none⟩) (itn p) cF)) 47)):=(Below.refl _ _).alloc (Nat.le_refl _) _
 have c1:(w.alloc (.cells (rsC p (.slice (some ⟨bL,oL,none⟩) (itn p) cL) (.slice (some ⟨bF,oF,none⟩) (itn p) cF)) 47)).cell? ⟨w.heap.size,1,none⟩=some (.slice (some ⟨bL,oL,none⟩) (itn p) cL):=(hA.cell 1).trans rfl
 have c2:(w.alloc (.cells (rsC p (.slice (some ⟨bL,oL,none⟩) (itn p) cL) (.slice (some ⟨bF,oF,none⟩) (itn p) cF)) 47)).cell? ⟨w.heap.size,2,none⟩=some (.slice (some ⟨bF,oF,none⟩) (itn p) cF):=(hA.cell 2).trans rfl
 have hR1:=hR.below hb
 have ms:(rsC p (.slice (some ⟨bL,oL,none⟩) (itn p) cL) (.slice (some ⟨bF,oF,none⟩) (itn p) cF)).size=3:=rfl
 obtain ⟨M,hM⟩:∃ M,M=rsC p (.slice (some ⟨bL,oL,none⟩) (itn p) cL) (.slice (some ⟨bF,oF,none⟩) (itn p) cF):=⟨_,rfl⟩
 rw [←hM] at hhas hA hb c1 c2 hR1 ms ⊢
 obtain ⟨w1,hw1⟩:∃ w1,w1=w.alloc (.cells M 47):=⟨_,rfl⟩
 rw [←hw1] at hA c1 c2 hb hR1
 rw [←hn] at c1 c2 hLc hit hbig
 obtain ⟨f,hf⟩:∃ f,f=fst p i:=⟨_,rfl⟩
 obtain ⟨m,hm⟩:∃ m,m=many p i:=⟨_,rfl⟩
 rw [←hf] at hFc
 rw [←hf,←hm] at hkc
 rw [←hm] at hm6 ⊢
 have hln:∀ j,(kz p i j).length=j:=kz_length p i
 have hsn:∀ j,kz p i (j+1)=kz p i j++[((f+j:Nat):Int)]:=fun j=>by rw [hf];exact kz_succ p i j
 have hk0:kz p i 0=[]:=rfl
 obtain ⟨KK,hKK⟩:∃ K,K=kz p i:=⟨_,rfl⟩
 rw [←hKK] at hln hsn hk0 ⊢
 have LT0:=zh hA.lt
 have HAS:=zh (hhas w1 hR1);have AX:=zh hA;have HB:=zh hb;have MS:=zh ms;have LC:=zh hLc;have FC:=zh hFc;have KC:=zh hkc;have C1:=zh c1;have C2:=zh c2;have LN:=zh hln;have SN:=zh hsn;have LTL:=zh hltL;have K0:=zh hk0
 have cF2:=FC.out w1 HB.out
 clear hhas hA hb c1 hR1 ms hM hR hLc hFc hkc hin hn hf hm hln hsn hKK hltL hltF hk0
 go_enter Tryz.func39,Tryz.ntmps39
 go_upto_region 1 with fail
 rw [←hw1]
 clear hw1 c2 cF2
 go_wp2_with (refine wpList_load_all zr 47 _ zr w.heap.size zr _ Tryz.underlying47 zr M _ AX.out (by rw [MS.out];exact infoRS) ?_)
 refine HAS.out.mono ?_
 rintro e w2 ⟨rfl,hb2⟩
 have c2:=(hb2.cell (p:=⟨w.heap.size,2,none⟩) LT0.out).trans C2.out
 have B2:Hid (Below w1.heap.size w1 w2):=zh hb2
 have cF2:=FC.out w2 (HB.out.trans (hb2.mono HB.out.size))
 have hin2:(i:Int) < (n:Int):=by omega
 clear hb2 HAS
 go_wp2_with fail
 go_loopw [5,6] (fun vo k wr=>∃ j:Nat,j≤m∧k=.int .i64 ((f+j:Nat):Int)∧OwnV wr w1.heap.size 3 vo (iz (KK j))∧Below w1.heap.size w1 wr) (fun _ k _=>f+7 - (intOf k).toNat)
 case atStart=>exact ⟨0,by omega,rfl,by rw [K0.out];exact OwnV.nil _ _ _,B2.out⟩
 case round=>
  clear c2 cF2 B2
  obtain ⟨j,hj,rfl,ho,hbw⟩:=hrel
  obtain ⟨ao,co,e,_⟩:=OwnV.open ho
  rw [iz_length,LN.out] at e
  subst e
  have hC1:=(hbw.cell (p:=⟨w.heap.size,1,none⟩) LT0.out).trans C1.out
  have hLw:=LC.out wr (HB.out.trans (hbw.mono HB.out.size))
  have lt0:w.heap.size < wr.heap.size:=Nat.lt_of_lt_of_le LT0.out hbw.size
  have ltl:bL < wr.heap.size:=Nat.lt_of_lt_of_le LTL.out (Nat.le_trans HB.out.size hbw.size)
  have hkj:=KC.out j
  have OO:=zh ho;have BW:=zh hbw
  have DRW:Hid (Below wr.heap.size wr wr.drew):=zh (Below.refl _ _).drew
  have J6v:=fun (r:Bool) (h:decide ((j:Int) < 6)=r) (t t2:TypeId) (x y:Operand) (wx:World)=>o_ilt (P:=Tryz.prog) (j:Int) 6 r h t t2 x y wx
  have KIv:=fun (r:Bool) (h:decide (((f+j:Nat):Int) < (i:Int))=r) (t t2:TypeId) (x y:Operand) (wx:World)=>o_ilt (P:=Tryz.prog) ((f+j:Nat):Int) (i:Int) r h t t2 x y wx
  have C1':=zh hC1;have LT0':=zh lt0;have LTL':=zh ltl;have LW:=zh hLw
  clear hC1 lt0 ltl hLw ho hbw
  by_cases h6:j < 6
  ·have J6:=zh (J6v true (decide_eq_true (by omega)))
   by_cases hki:f+j < i
   ·have KI:=zh (KIv true (decide_eq_true (by omega)))
    obtain ⟨lk,hlk⟩:∃ l,l=lev p (f+j):=⟨_,rfl⟩
    obtain ⟨li,hli⟩:∃ l,l=lev p i:=⟨_,rfl⟩
    have hl3:=lev_le p i
    have ck:=LW.out (f+j) (by omega)
    have ci:=LW.out i hit
    rw [←hlk,←hli] at hkj
    rw [←hlk] at ck
    rw [←hli] at ci hl3
    have SUB:=zh (fun (t t2:TypeId) (x y:Operand) (wx:World)=>o_isub (P:=Tryz.prog) t t2 x y (li:Int) 1 ((li:Int) - 1) rfl (by omega) (by omega) wx)
    have EQv:=fun (r:Bool) (h:decide ((lk:Int)=(li:Int) - 1)=r) (t t2:TypeId) (x y:Operand) (wx:World)=>o_ieqd (P:=Tryz.prog) (lk:Int) ((li:Int) - 1) r h t t2 x y wx
    have CK:=zh ck;have CI:=zh ci
    clear ck ci hlk hli hl3
    by_cases hl:lk+1=li
    ·have hjm:j < m:=hkj.1 ⟨h6,hki,hl⟩
     have EQ:=zh (EQv true (decide_eq_true (by omega)))
     clear J6v KIv EQv hkj hl
     go_wp2_with fail
     refine wp_region_plan (.take 0 (.take 1 (.take 2 (.take 3 (.take 4 (.take 5 (.take 6 (.take 7 (.take 8 (.take 9 (.take 10 (.take 11 (.take 12 (.take 13 (.take 14 (.take 15 (.take 16 (.take 17 (.take 18 (.take 19 (.take 20 (.take 21 .done)))))))))))))))))))))) (by kernel_rfl) (by kernel_rfl) (by kernel_rfl) ?_
     (first | refine Mem.pm1 ?_ | refine Mem.pm2 ?_ | refine Mem.pt ?_ | refine Mem.pf ?_)
     (simp only [Mem.zp,Mem.pb,Mem.pc])
     refine plan_len _ _ _ ao j co zr zr zr zr ze (fun w'=>by first | rfl | go_simp) ?_
     (simp only [Mem.zp,Mem.pb,Mem.pc])
     refine plan_bin _ _ _ _ _ _ _ (.bool true) zr zr zr ze zr (fun wx=>J6.out _ _ _ _ wx) ?_
     (simp only [Mem.zp,Mem.pb,Mem.pc])
     iterate 3 ((first | refine Mem.pm1 ?_ | refine Mem.pm2 ?_ | refine Mem.pt ?_ | refine Mem.pf ?_);(simp only [Mem.zp,Mem.pb,Mem.pc]))
     refine plan_bin _ _ _ _ _ _ _ (.bool true) zr zr zr ze ze (fun wx=>KI.out _ _ _ _ wx) ?_
     (simp only [Mem.zp,Mem.pb,Mem.pc])
     refine plan_pick_t _ _ _ _ zr zr zr ze ze ?_
     (simp only [Mem.zp,Mem.pb,Mem.pc])
     (first | refine Mem.pm1 ?_ | refine Mem.pm2 ?_ | refine Mem.pt ?_ | refine Mem.pf ?_)
     (simp only [Mem.zp,Mem.pb,Mem.pc])
     refine plan_field 47 _ 1 w.heap.size 0 ⟨w.heap.size,1,none⟩ zr zr zr ze (fun wx=>by go_simp) ?_
     (simp only [Mem.zp,Mem.pb,Mem.pc])
     refine plan_cell 45 _ ⟨w.heap.size,1,none⟩ (.slice (some ⟨bL,oL,none⟩) n cL) _ zr zr zr ze (fun w' hw'=>(Below.cell hw' (p:=⟨w.heap.size,1,none⟩) LT0'.out).trans C1'.out) Tryz.underlying45 zr ?_
     (simp only [Mem.zp,Mem.pb,Mem.pc])
     (first | refine Mem.pm1 ?_ | refine Mem.pm2 ?_ | refine Mem.pt ?_ | refine Mem.pf ?_)
     (simp only [Mem.zp,Mem.pb,Mem.pc])
     refine plan_index 45 3 _ _ bL oL n cL (f+j) zr zr zr ze ze (by omega) Tryz.underlying45 (by kernel_rfl) ?_
     (simp only [Mem.zp,Mem.pb,Mem.pc])
     refine plan_cell 3 _ ⟨bL,oL+(f+j),none⟩ (.int .i64 (lk:Int)) _ zr zr zr ze (fun w' hw'=>(Below.cell hw' (p:=⟨bL,oL+(f+j),none⟩) LTL'.out).trans CK.out) Tryz.underlying3 zr ?_
     (simp only [Mem.zp,Mem.pb,Mem.pc])
     refine plan_field 47 _ 1 w.heap.size 0 ⟨w.heap.size,1,none⟩ zr zr zr ze (fun wx=>by go_simp) ?_
     (simp only [Mem.zp,Mem.pb,Mem.pc])
     refine plan_cell 45 _ ⟨w.heap.size,1,none⟩ (.slice (some ⟨bL,oL,none⟩) n cL) _ zr zr zr ze (fun w' hw'=>(Below.cell hw' (p:=⟨w.heap.size,1,none⟩) LT0'.out).trans C1'.out) Tryz.underlying45 zr ?_
     (simp only [Mem.zp,Mem.pb,Mem.pc])
     (first | refine Mem.pm1 ?_ | refine Mem.pm2 ?_ | refine Mem.pt ?_ | refine Mem.pf ?_)
     (simp only [Mem.zp,Mem.pb,Mem.pc])
     refine plan_index 45 3 _ _ bL oL n cL i zr zr zr ze ze (by omega) Tryz.underlying45 (by kernel_rfl) ?_
     (simp only [Mem.zp,Mem.pb,Mem.pc])
     refine plan_cell 3 _ ⟨bL,oL+i,none⟩ (.int .i64 (li:Int)) _ zr zr zr ze (fun w' hw'=>(Below.cell hw' (p:=⟨bL,oL+i,none⟩) LTL'.out).trans CI.out) Tryz.underlying3 zr ?_
     (simp only [Mem.zp,Mem.pb,Mem.pc])
     refine plan_bin _ _ _ _ _ _ _ (.int .i64 ((li:Int) - 1)) zr zr zr ze zr (fun wx=>SUB.out _ _ _ _ wx) ?_
     (simp only [Mem.zp,Mem.pb,Mem.pc])
     refine plan_bin _ _ _ _ _ _ _ (.bool true) zr zr zr ze ze (fun wx=>EQ.out _ _ _ _ wx) ?_
     (simp only [Mem.zp,Mem.pb,Mem.pc])
     refine plan_pick_t _ _ _ _ zr zr zr ze ze ?_
     (simp only [Mem.zp,Mem.pb,Mem.pc])
     refine plan_nil ?_
     have OW:=zh (OwnV.below OO.out DRW.out);have BD:Hid (Below w1.heap.size w1 wr.drew):=zh (BW.out.trans (DRW.out.mono BW.out.size))
     have hlen:(iz (KK j)).length=j:=by rw [iz_length,LN.out]
     have HLN:=zh hlen
     have SNJ:=zh (SN.out j)
     clear hlen
     go_wp2_with (at_builtin;refine wpList_append_lit zr _ _ 45 zr (.int .i64 ((f+j:Nat):Int)) (.int .i64 0) 8 elemInt zr zr OW.out zr zr (by rw [HLN.out];omega) (by rw [HLN.out];omega) (BD.out.size) ?_;intro v6 w6 ho6 _ hb6 _;have O6:Hid (OwnV w6 w1.heap.size 3 v6 (iz (KK (j+1)))):=zh (by rw [SNJ.out,iz_snoc];exact ho6);have B6:Hid (Below w1.heap.size w1 w6):=zh (BD.out.trans hb6);clear ho6 hb6)
     go_roundw
     case rel=>exact ⟨j+1,by omega,congrArg (Value.int .i64) (by omega),O6.out,B6.out⟩
     case measure=>simp [intOf];omega
    ·have hjm:j=m:=by have:=hkj.2;omega
     have EQ:=zh (EQv false (decide_eq_false (by omega)))
     subst hjm
     clear J6v KIv EQv hkj hl hm6 hj
     go_wp2_with fail
     refine wp_region_plan (.take 0 (.take 1 (.take 2 (.take 3 (.take 4 (.take 5 (.take 6 (.take 7 (.take 8 (.take 9 (.take 10 (.take 11 (.take 12 (.take 13 (.take 14 (.take 15 (.take 16 (.take 17 (.take 18 (.take 19 (.take 20 (.take 21 .done)))))))))))))))))))))) (by kernel_rfl) (by kernel_rfl) (by kernel_rfl) ?_
     (first | refine Mem.pm1 ?_ | refine Mem.pm2 ?_ | refine Mem.pt ?_ | refine Mem.pf ?_)
     (simp only [Mem.zp,Mem.pb,Mem.pc])
     refine plan_len _ _ _ ao j co zr zr zr zr ze (fun w'=>by first | rfl | go_simp) ?_
     (simp only [Mem.zp,Mem.pb,Mem.pc])
     refine plan_bin _ _ _ _ _ _ _ (.bool true) zr zr zr ze zr (fun wx=>J6.out _ _ _ _ wx) ?_
     (simp only [Mem.zp,Mem.pb,Mem.pc])
     iterate 3 ((first | refine Mem.pm1 ?_ | refine Mem.pm2 ?_ | refine Mem.pt ?_ | refine Mem.pf ?_);(simp only [Mem.zp,Mem.pb,Mem.pc]))
     refine plan_bin _ _ _ _ _ _ _ (.bool true) zr zr zr ze ze (fun wx=>KI.out _ _ _ _ wx) ?_
     (simp only [Mem.zp,Mem.pb,Mem.pc])
     refine plan_pick_t _ _ _ _ zr zr zr ze ze ?_
     (simp only [Mem.zp,Mem.pb,Mem.pc])
     (first | refine Mem.pm1 ?_ | refine Mem.pm2 ?_ | refine Mem.pt ?_ | refine Mem.pf ?_)
     (simp only [Mem.zp,Mem.pb,Mem.pc])
     refine plan_field 47 _ 1 w.heap.size 0 ⟨w.heap.size,1,none⟩ zr zr zr ze (fun wx=>by go_simp) ?_
     (simp only [Mem.zp,Mem.pb,Mem.pc])
     refine plan_cell 45 _ ⟨w.heap.size,1,none⟩ (.slice (some ⟨bL,oL,none⟩) n cL) _ zr zr zr ze (fun w' hw'=>(Below.cell hw' (p:=⟨w.heap.size,1,none⟩) LT0'.out).trans C1'.out) Tryz.underlying45 zr ?_
     (simp only [Mem.zp,Mem.pb,Mem.pc])
     (first | refine Mem.pm1 ?_ | refine Mem.pm2 ?_ | refine Mem.pt ?_ | refine Mem.pf ?_)
     (simp only [Mem.zp,Mem.pb,Mem.pc])
     refine plan_index 45 3 _ _ bL oL n cL (f+j) zr zr zr ze ze (by omega) Tryz.underlying45 (by kernel_rfl) ?_
     (simp only [Mem.zp,Mem.pb,Mem.pc])
     refine plan_cell 3 _ ⟨bL,oL+(f+j),none⟩ (.int .i64 (lk:Int)) _ zr zr zr ze (fun w' hw'=>(Below.cell hw' (p:=⟨bL,oL+(f+j),none⟩) LTL'.out).trans CK.out) Tryz.underlying3 zr ?_
     (simp only [Mem.zp,Mem.pb,Mem.pc])
     refine plan_field 47 _ 1 w.heap.size 0 ⟨w.heap.size,1,none⟩ zr zr zr ze (fun wx=>by go_simp) ?_
     (simp only [Mem.zp,Mem.pb,Mem.pc])
     refine plan_cell 45 _ ⟨w.heap.size,1,none⟩ (.slice (some ⟨bL,oL,none⟩) n cL) _ zr zr zr ze (fun w' hw'=>(Below.cell hw' (p:=⟨w.heap.size,1,none⟩) LT0'.out).trans C1'.out) Tryz.underlying45 zr ?_
     (simp only [Mem.zp,Mem.pb,Mem.pc])
     (first | refine Mem.pm1 ?_ | refine Mem.pm2 ?_ | refine Mem.pt ?_ | refine Mem.pf ?_)
     (simp only [Mem.zp,Mem.pb,Mem.pc])
     refine plan_index 45 3 _ _ bL oL n cL i zr zr zr ze ze (by omega) Tryz.underlying45 (by kernel_rfl) ?_
     (simp only [Mem.zp,Mem.pb,Mem.pc])
     refine plan_cell 3 _ ⟨bL,oL+i,none⟩ (.int .i64 (li:Int)) _ zr zr zr ze (fun w' hw'=>(Below.cell hw' (p:=⟨bL,oL+i,none⟩) LTL'.out).trans CI.out) Tryz.underlying3 zr ?_
     (simp only [Mem.zp,Mem.pb,Mem.pc])
     refine plan_bin _ _ _ _ _ _ _ (.int .i64 ((li:Int) - 1)) zr zr zr ze zr (fun wx=>SUB.out _ _ _ _ wx) ?_
     (simp only [Mem.zp,Mem.pb,Mem.pc])
     refine plan_bin _ _ _ _ _ _ _ (.bool false) zr zr zr ze ze (fun wx=>EQ.out _ _ _ _ wx) ?_
     (simp only [Mem.zp,Mem.pb,Mem.pc])
     refine plan_pick_t _ _ _ _ zr zr zr ze ze ?_
     (simp only [Mem.zp,Mem.pb,Mem.pc])
     refine plan_nil ?_
     go_wp2_with fail
     go_ret
     exact ⟨_,rfl,ownV_sli (OwnV.below OO.out DRW.out),HB.out.trans ((BW.out.trans (DRW.out.mono BW.out.size)).mono HB.out.size)⟩
   ·have hjm:j=m:=by have:=hkj.2;omega
    have KI:=zh (KIv false (decide_eq_false (by omega)))
    subst hjm
    clear J6v KIv hkj hm6 hj hki
    go_wp2_with fail
    refine wp_region_plan (.take 0 (.take 1 (.take 2 (.take 3 (.take 4 (.take 5 (.take 6 (.take 7 (.take 8 (.take 9 (.take 10 (.take 11 (.take 12 (.take 13 (.take 14 (.take 15 (.take 16 (.take 17 (.take 18 (.take 19 (.take 20 (.take 21 .done)))))))))))))))))))))) (by kernel_rfl) (by kernel_rfl) (by kernel_rfl) ?_
    (first | refine Mem.pm1 ?_ | refine Mem.pm2 ?_ | refine Mem.pt ?_ | refine Mem.pf ?_)
    (simp only [Mem.zp,Mem.pb,Mem.pc])
    refine plan_len _ _ _ ao j co zr zr zr zr ze (fun w'=>by first | rfl | go_simp) ?_
    (simp only [Mem.zp,Mem.pb,Mem.pc])
    refine plan_bin _ _ _ _ _ _ _ (.bool true) zr zr zr ze zr (fun wx=>J6.out _ _ _ _ wx) ?_
    (simp only [Mem.zp,Mem.pb,Mem.pc])
    iterate 3 ((first | refine Mem.pm1 ?_ | refine Mem.pm2 ?_ | refine Mem.pt ?_ | refine Mem.pf ?_);(simp only [Mem.zp,Mem.pb,Mem.pc]))
    refine plan_bin _ _ _ _ _ _ _ (.bool false) zr zr zr ze ze (fun wx=>KI.out _ _ _ _ wx) ?_
    (simp only [Mem.zp,Mem.pb,Mem.pc])
    refine plan_pick_t _ _ _ _ zr zr zr ze ze ?_
    (simp only [Mem.zp,Mem.pb,Mem.pc])
    (first | refine Mem.pm1 ?_ | refine Mem.pm2 ?_ | refine Mem.pt ?_ | refine Mem.pf ?_)
    (simp only [Mem.zp,Mem.pb,Mem.pc])
    refine plan_skip zr zr ?_
    (simp only [Mem.zp,Mem.pb,Mem.pc])
    refine plan_skip zr zr ?_
    (simp only [Mem.zp,Mem.pb,Mem.pc])
    refine plan_skip zr zr ?_
    (simp only [Mem.zp,Mem.pb,Mem.pc])
    refine plan_skip zr zr ?_
    (simp only [Mem.zp,Mem.pb,Mem.pc])
    refine plan_skip zr zr ?_
    (simp only [Mem.zp,Mem.pb,Mem.pc])
    refine plan_skip zr zr ?_
    (simp only [Mem.zp,Mem.pb,Mem.pc])
    refine plan_skip zr zr ?_
    (simp only [Mem.zp,Mem.pb,Mem.pc])
    refine plan_skip zr zr ?_
    (simp only [Mem.zp,Mem.pb,Mem.pc])
    refine plan_skip zr zr ?_
    (simp only [Mem.zp,Mem.pb,Mem.pc])
    refine plan_skip zr zr ?_
    (simp only [Mem.zp,Mem.pb,Mem.pc])
    refine plan_skip zr zr ?_
    (simp only [Mem.zp,Mem.pb,Mem.pc])
    refine plan_skip zr zr ?_
    (simp only [Mem.zp,Mem.pb,Mem.pc])
    refine plan_pick_f _ _ _ _ zr zr zr ze ze ?_
    (simp only [Mem.zp,Mem.pb,Mem.pc])
    refine plan_nil ?_
    go_wp2_with fail
    go_ret
    exact ⟨_,rfl,ownV_sli (OwnV.below OO.out DRW.out),HB.out.trans ((BW.out.trans (DRW.out.mono BW.out.size)).mono HB.out.size)⟩
  ·have hjm:j=m:=by have:=hkj.2;omega
   have J6:=zh (J6v false (decide_eq_false (by omega)))
   subst hjm
   clear J6v KIv hkj hm6 hj h6
   go_wp2_with fail
   refine wp_region_plan (.take 0 (.take 1 (.take 2 (.take 3 (.take 4 (.take 5 (.take 6 (.take 7 (.take 8 (.take 9 (.take 10 (.take 11 (.take 12 (.take 13 (.take 14 (.take 15 (.take 16 (.take 17 (.take 18 (.take 19 (.take 20 (.take 21 .done)))))))))))))))))))))) (by kernel_rfl) (by kernel_rfl) (by kernel_rfl) ?_
   (first | refine Mem.pm1 ?_ | refine Mem.pm2 ?_ | refine Mem.pt ?_ | refine Mem.pf ?_)
   (simp only [Mem.zp,Mem.pb,Mem.pc])
   refine plan_len _ _ _ ao j co zr zr zr zr ze (fun w'=>by first | rfl | go_simp) ?_
   (simp only [Mem.zp,Mem.pb,Mem.pc])
   refine plan_bin _ _ _ _ _ _ _ (.bool false) zr zr zr ze zr (fun wx=>J6.out _ _ _ _ wx) ?_
   (simp only [Mem.zp,Mem.pb,Mem.pc])
   (first | refine Mem.pm1 ?_ | refine Mem.pm2 ?_ | refine Mem.pt ?_ | refine Mem.pf ?_)
   (simp only [Mem.zp,Mem.pb,Mem.pc])
   refine plan_skip zr zr ?_
   (simp only [Mem.zp,Mem.pb,Mem.pc])
   refine plan_skip zr zr ?_
   (simp only [Mem.zp,Mem.pb,Mem.pc])
   refine plan_skip zr zr ?_
   (simp only [Mem.zp,Mem.pb,Mem.pc])
   refine plan_pick_f _ _ _ _ zr zr zr ze ze ?_
   (simp only [Mem.zp,Mem.pb,Mem.pc])
   (first | refine Mem.pm1 ?_ | refine Mem.pm2 ?_ | refine Mem.pt ?_ | refine Mem.pf ?_)
   (simp only [Mem.zp,Mem.pb,Mem.pc])
   refine plan_skip zr zr ?_
   (simp only [Mem.zp,Mem.pb,Mem.pc])
   refine plan_skip zr zr ?_
   (simp only [Mem.zp,Mem.pb,Mem.pc])
   refine plan_skip zr zr ?_
   (simp only [Mem.zp,Mem.pb,Mem.pc])
   refine plan_skip zr zr ?_
   (simp only [Mem.zp,Mem.pb,Mem.pc])
   refine plan_skip zr zr ?_
   (simp only [Mem.zp,Mem.pb,Mem.pc])
   refine plan_skip zr zr ?_
   (simp only [Mem.zp,Mem.pb,Mem.pc])
   refine plan_skip zr zr ?_
   (simp only [Mem.zp,Mem.pb,Mem.pc])
   refine plan_skip zr zr ?_
   (simp only [Mem.zp,Mem.pb,Mem.pc])
   refine plan_skip zr zr ?_
   (simp only [Mem.zp,Mem.pb,Mem.pc])
   refine plan_skip zr zr ?_
   (simp only [Mem.zp,Mem.pb,Mem.pc])
   refine plan_skip zr zr ?_
   (simp only [Mem.zp,Mem.pb,Mem.pc])
   refine plan_skip zr zr ?_
   (simp only [Mem.zp,Mem.pb,Mem.pc])
   refine plan_pick_f _ _ _ _ zr zr zr ze ze ?_
   (simp only [Mem.zp,Mem.pb,Mem.pc])
   refine plan_nil ?_
   go_wp2_with fail
   go_ret
   exact ⟨_,rfl,ownV_sli (OwnV.below OO.out DRW.out),HB.out.trans ((BW.out.trans (DRW.out.mono BW.out.size)).mono HB.out.size)⟩
theorem rkids_any (p:Nat) (vL vF:Value) (z:Int) (w:World) (hR:RS w p vL vF) (h0:1≤p) (h1:p≤216):Calls Tryz.prog 39 #[.agg (rsC p vL vF),.int .i64 z] w (IEnd w (KZ p z)):=by
 unfold KZ
 by_cases h:(p:Int)≤z∧z < (itn p:Int)
 ·rw [if_pos h]
  obtain ⟨i,rfl⟩:∃ i:Nat,z=(i:Int):=⟨z.toNat,by omega⟩
  exact rkids_some p vL vF i w hR h0 h1 (by omega) (by omega)
 ·rw [if_neg h]
  exact rkids_none p vL vF z w hR h
end Sha
end Go.Proofs.YtddjdaocdfkgeaaGreatDoor
namespace Go.Proofs.YtddjdaocdfkgeaaGreatDoor
namespace Sha
open Go.RowKit Mem
def pieceA (a:Option Addr) (cap i:Nat):Option Addr:=if cap=i then a else a.map (·.add i)
theorem sl_piece {w:World} {a:Option Addr} {cap i j:Nat} {l:Lb8} (h:Sl w (.slice a l.length cap) l) (hi:i≤j) (hj:j≤l.length):Sl w (.slice (pieceA a cap i) (j - i) (cap - i)) ((l.drop i).take (j - i)):=by
 obtain ⟨a',cap',e,hcap,hr⟩:=h
 injection e with e1 _ e3
 subst e1;subst e3
 have hl:((l.drop i).take (j - i)).length=j - i:=by rw [List.length_take,List.length_drop];omega
 refine ⟨_,_,by rw [hl],by rw [hl];omega,fun hne=>?_⟩
 have hij:i < j:=by
  rcases Nat.lt_or_ge i j with h | h
  ·exact h
  ·rw [show j - i=0 by omega,List.take_zero] at hne
   exact absurd rfl hne
 obtain ⟨bb,oo,rfl,hlt,hc⟩:=hr (by intro h0;rw [h0] at hj;simp at hj;omega)
 refine ⟨bb,oo+i,by rw [pieceA,if_neg (by omega)];simp [Addr.add_mid],hlt,fun k hk=>?_⟩
 rw [hl] at hk
 rw [Nat.add_assoc,hc (i+k) (by omega)]
 simp [List.getD_eq_getElem?_getD,hk]
section
variable {ops:Array Oper} {rest:List Oper} {o:Oper} {a:Act} {w:World} {Q:Exit→Act→World→Prop}
theorem slice_run (ty:TypeId) (e:TypeId) (hu:Tryz.prog.underlying ty=some (.slice e)) (hs:(Tryz.prog.info? e).map (·.size)=some 1) (a0:Option Addr) (len cap i j:Nat) (hij:i≤j) (hj:j≤len) (hc:len≤cap) (w:World) :
 (Instr.sliceAt ty (.slice a0 len cap) (some (.int .i64 (i:Int))) (some (.int .i64 (j:Int))) none).run Tryz.prog w=.ok (.slice (pieceA a0 cap i) (j - i) (cap - i)) w ∧
 (Instr.sliceAt ty (.slice a0 len cap) none (some (.int .i64 (j:Int))) none).run Tryz.prog w=.ok (.slice (pieceA a0 cap 0) j cap) w ∧
 (Instr.sliceAt ty (.slice a0 len cap) (some (.int .i64 (i:Int))) none none).run Tryz.prog w=.ok (.slice (pieceA a0 cap i) (len - i) (cap - i)) w:=by
 cases hq:Tryz.prog.info? e with
 | none=>simp [hq] at hs
 | some q=>
  have hs1:q.size=1:=by simpa [hq] using hs
  have hjc:j≤cap:=by omega
  have hil:i≤len:=by omega
  refine ⟨?_,?_,?_⟩ <;> simp [Instr.sliceAt,Instr.slice,Instr.sliceBounds,Instr.sliceBound,asIntOf,Sem.run_bind,run_underlying hu,sizeOf,typeInfo,hq,hs1,hij,hjc,hil,pieceA]
theorem wpList_piece_to (hw:Region.wanted o (yielded ops a.tmps)=true) (ty:TypeId) (x j:Operand) (ho:o.op=.slice ty x none (some j) none) (hu:Tryz.prog.underlying ty=some (.slice 5)) (a0:Option Addr) (len cap m:Nat) (l:Lb8) (hl:l.length=len)
 (hx:a.eval x=.slice a0 len cap) (hv:Sl w (.slice a0 len cap) l) (hj:a.eval j=.int .i64 (m:Int)) (hm:m≤len)
 (h:Sl w (.slice (pieceA a0 cap 0) m cap) (l.take m)→wpList Tryz.prog ops Q rest (a.put o.dst (.slice (pieceA a0 cap 0) m cap)) w):wpList Tryz.prog ops Q (o::rest) a w:=by
 subst hl
 have hcap:l.length≤cap:=by obtain ⟨_,_,e,hc,_⟩:=hv;injection e with _ _ e3;omega
 have hr:=(slice_run ty 5 hu infoB a0 l.length cap 0 m (Nat.zero_le _) hm hcap w).2.1
 unfold wpList
 rw [if_pos hw]
 left
 unfold Oper.wp
 have:(execOp a.eval o).run Tryz.prog w=.ok (.value (.slice (pieceA a0 cap 0) m cap)) w:=by
  unfold execOp
  simp only [ho,hx,hj,Option.map_some,Option.map_none,Sem.run_bind,hr,Result.andThen_ok,Sem.run_pure]
 rw [this]
 have h1:=sl_piece hv (Nat.zero_le m) hm
 rw [Nat.sub_zero,Nat.sub_zero,List.drop_zero] at h1
 exact h h1
theorem wpList_piece_from (hw:Region.wanted o (yielded ops a.tmps)=true) (ty:TypeId) (x i:Operand) (ho:o.op=.slice ty x (some i) none none) (hu:Tryz.prog.underlying ty=some (.slice 5)) (a0:Option Addr) (len cap k:Nat) (l:Lb8) (hl:l.length=len)
 (hx:a.eval x=.slice a0 len cap) (hv:Sl w (.slice a0 len cap) l) (hi:a.eval i=.int .i64 (k:Int)) (hk:k≤len)
 (h:Sl w (.slice (pieceA a0 cap k) (len - k) (cap - k)) (l.drop k)→wpList Tryz.prog ops Q rest (a.put o.dst (.slice (pieceA a0 cap k) (len - k) (cap - k))) w):wpList Tryz.prog ops Q (o::rest) a w:=by
 subst hl
 have hcap:l.length≤cap:=by obtain ⟨_,_,e,hc,_⟩:=hv;injection e with _ _ e3;omega
 have hr:=(slice_run ty 5 hu infoB a0 l.length cap k l.length hk (Nat.le_refl _) hcap w).2.2
 unfold wpList
 rw [if_pos hw]
 left
 unfold Oper.wp
 have:(execOp a.eval o).run Tryz.prog w=.ok (.value (.slice (pieceA a0 cap k) (l.length - k) (cap - k))) w:=by
  unfold execOp
  simp only [ho,hx,hi,Option.map_some,Option.map_none,Sem.run_bind,hr,Result.andThen_ok,Sem.run_pure]
 rw [this]
 have h1:=sl_piece hv hk (Nat.le_refl _)
 rw [List.take_of_length_le (by rw [List.length_drop];omega)] at h1
 exact h h1
end
end Sha
end Go.Proofs.YtddjdaocdfkgeaaGreatDoor
namespace Go.Proofs.YtddjdaocdfkgeaaGreatDoor
namespace Sha
open Go.RowKit Mem
theorem wpList_conv {P:Program} {ops:Array Oper} {rest:List Oper} {o:Oper} {a:Act} {w:World} {Q:Exit→Act→World→Prop} (hw:Region.wanted o (yielded ops a.tmps)=true) (t1 t2:TypeId) (x:Operand) (vx v:Value)
 (hop:o.op=.convert t1 t2 x) (hx:a.eval x=vx) (hv:∀ w',(convert t1 t2 vx).run P w'=.ok v w') (h:wpList P ops Q rest (a.put o.dst v) w):wpList P ops Q (o::rest) a w:=by
 unfold wpList
 rw [if_pos hw]
 left
 unfold Oper.wp
 have:(execOp a.eval o).run P w=.ok (.value v) w:=by
  have:=hv w
  simp only [execOp,hop,hx]
  rw [Sem.run_bind,this];rfl
 rw [this]
 exact h
end Sha
end Go.Proofs.YtddjdaocdfkgeaaGreatDoor
namespace Go.Proofs.YtddjdaocdfkgeaaGreatDoor
namespace Sha
open Go.RowKit Mem
section
variable {P:Program} {ops:Array Oper} {Q:Exit→Act→World→Prop} {S:World→Prop} {w:World} {a:Act} {o:Oper} {i:Nat} {r:Plan}
theorem plan_store_at (ty:TypeId) (x y:Operand) (b k:Nat) (D C E:Array Value) (t:TypeId) (ho:ops.toList[i]?=some o) (hw:Region.wanted o (yielded ops a.tmps)=true) (hop:o.op=.store ty x y) (hdst:o.dst=none)
 (hx:a.eval x=.pointer (some ⟨b,k,none⟩)) (hy:a.eval y=.agg D) (hi:(P.info? ty).map (·.size)=some D.size) (hC:At w b C t) (hn:k+D.size≤C.size) (h1:D.all (·.oneCell')=true) (hE:Mem.splice C k D.toList=E) (hS:S (w.setRow b E))
 (h:wpPlan P ops Q S r a (w.setRow b E)):wpPlan P ops Q S (.sole i r) a w:=by
 refine wpOp_at ho hw ?_
 have hput:a.put o.dst undef=a:=by rw [hdst];rfl
 refine wp_store_mid ty x y hop b k D hx hy (fun j hj=>?_) hi h1 ?_
 ·rw [hC.cell,hC.free]
  exact ⟨by simp;omega,rfl⟩
 ·rw [setCells_row _ _ _ _ _ hC (by simpa using hn),hput,hE];exact ⟨hS,h⟩
end
end Sha
end Go.Proofs.YtddjdaocdfkgeaaGreatDoor
namespace Go.Proofs.YtddjdaocdfkgeaaGreatDoor
namespace Sha
open Go.ChangeShapes Go.WideShapes Go.ChangeAt Go.WideMaps Go.WideElems Go.RowKit Mem
theorem own:ownKnob Tryz.prog.godebug=none:=by kernel_rfl
theorem laidOut:laidOutB Tryz.prog=true:=by kernel_rfl
theorem trodAll_below {H:Type} {enc:TypeId × Value→H} {P:Program} (hl:laidOutB P=true) {W W':World} (hb:Below W.heap.size W W') :
 ∀ {ts:List TypeId} {vs:List Value} {ds:List (DataW H)} {ps:List MemPlace},ts.all (fun t=>P.readableRec t && decide (t < P.types.size))=true→DataW.TrodAll enc P W 0 (fun _=>true) true ts vs ds ps →
  DataW.TrodAll enc P W' 0 (fun b=>decide (b < W.heap.size)) true ts vs ds ps
 | [],[],[],_,_,h=>h
 | t::ts,v::vs,d::ds,ps,hr,h=>by
  have hlt:=DataW.TrodAll.lt h
  obtain ⟨p,q,h1,h2,e⟩:=h
  simp only [List.all_cons,Bool.and_eq_true,decide_eq_true_eq] at hr
  exact ⟨p,q,Below.trod hl hr.1.1 hr.1.2 h1 hb (fun x hx=>hlt x (by rw [e];simp [hx])),trodAll_below hl hb hr.2 h2,e⟩
 | [],[],_::_,_,_,h=>h.elim
 | [],_::_,_,_,_,h=>by cases ‹List (DataW H)› <;> exact h.elim
 | _::_,[],_,_,_,h=>by cases ‹List (DataW H)› <;> exact h.elim
 | _::_,_::_,[],_,_,h=>h.elim
theorem trodAll_len {H:Type} {enc:TypeId × Value→H} {P:Program} {w:World} {base:Nat} {sp:Nat→Bool} {held:Bool}:∀ {ts:List TypeId} {vs:List Value} {ds:List (DataW H)} {ps:List MemPlace},DataW.TrodAll enc P w base sp held ts vs ds ps→ds.length=ts.length
 | [],[],[],_,_=>rfl
 | _::_,_::_,_::_,_,h=>by
  obtain ⟨_,_,_,h2,_⟩:=h
  simp [trodAll_len h2]
 | [],[],_::_,_,h=>h.elim
 | [],_::_,ds,_,h=>by cases ds <;> exact h.elim
 | _::_,[],ds,_,h=>by cases ds <;> exact h.elim
 | _::_,_::_,[],_,h=>h.elim
def LawTrue (f:FuncId) (args:Array Value) (W:World):Prop:=Calls Tryz.prog f args W fun e w'=>e=.returned (.bool true)∧Below W.heap.size W w'
theorem law_lift_of (laidL:List (String × DataW Unit)) (T:World→Prop) (tabsT:∀ {W:World},laidMetH Tryz.prog laidL W→T W) {f:FuncId} {fn:Func} {s:ChangeSpec} (hvars:s.vars=[]) (hres:fn.resultTypes=#[4]) (hread:fn.params.toList.all (fun t=>Tryz.prog.readableRec t && decide (t < Tryz.prog.types.size))=true)
 (hs:∀ (H:Type) (ds:List (DataW H)),ds.length=fn.params.size→s.fn H ds={ results:=[.lit (.bool true)],args:=ds }) (noInit:Tryz.checked.prog.inits.idxOf? f=none) (hfn:Tryz.prog.funcs[f]?=some fn)
 (os:Os) (started:os.Started) (H:Type) (enc:TypeId × Value→H) (wargs:Array Value) (fuel:Nat)
 (hok:Input.okWideB Tryz.prog ((World.doorLaid Tryz.prog 4000 os).forCall (fun _ _=>0) ⟨#[],wargs,[]⟩) f ⟨#[],wargs,[]⟩=true)
 (hpre:s.preB enc Tryz.prog fn [] false ((World.doorLaid Tryz.prog 4000 os).forCall (fun _ _=>0) ⟨#[],wargs,[]⟩).memory wargs fuel=true)
 (hsz:s.sizedB enc Tryz.prog fn false ((World.doorLaid Tryz.prog 4000 os).forCall (fun _ _=>0) ⟨#[],wargs,[]⟩).memory wargs fuel=true)
 (hsh:((World.doorLaid Tryz.prog 4000 os).forCall (fun _ _=>0) ⟨#[],wargs,[]⟩).Shaped Tryz.prog)
 (hdoor:laidMetH Tryz.prog laidL ((World.doorLaid Tryz.prog 4000 os).forCall (fun _ _=>0) ⟨#[],wargs,[]⟩).memory)
 (hos:(World.doorLaid Tryz.prog 4000 os).os=os)
 (contract:∀ (W:World) (base:Nat) (args:Array Value) (ds:List (DataW H)) (p:List MemPlace),(∀ (j:Nat) t v,fn.params[j]?=some t→args[j]?=some v→Value.okWide Tryz.prog W .any base t v) →
  DataW.TrodAll enc Tryz.prog W 0 (fun _=>true) true fn.params.toList args.toList ds p→T W→LawTrue f args W) :
 ReturnsInHanded {} Tryz.checked os f .any (fun w args=>(s.pre enc Tryz.prog fn [] false w args∧laidMetH Tryz.prog laidL w)∧sizedMet enc Tryz.prog fn (OpenSpec.ofChange s) false w args) (s.post enc Tryz.prog fn false true false false):=by
 refine returnsInHanded_of_change_and (C:=Tryz.checked) (X:=fun w _=>laidMetH Tryz.prog laidL w) (fun _ _ _ hh h=>h.of_heap hh) own started noInit hfn
  (ChangeSpec.witness_shaped (enc:=enc) (C:=Tryz.checked) (os:=os) (X:=fun w _=>laidMetH Tryz.prog laidL w) false (World.doorLaid Tryz.prog 4000 os) wargs fuel hos hsh hok hpre hsz hdoor) ?_
 intro W base args ds gs before hval hW _ _ hL _
 have hW':=hW
 obtain ⟨p,q,hA,hV,rfl,_,_⟩:=hW
 rw [hvars] at hV
 obtain ⟨rfl,rfl⟩:=trodVars_none hV
 refine (contract W base args ds p hval hA (tabsT hL)).mono fun e W' ⟨he,hb⟩=>?_
 subst he
 have hsd:=hs H ds (by rw [trodAll_len hA];simp)
 refine ⟨_,rfl,ds,[],p++[],[],p,[],hW',?_,?_,?_,hb.frame _,fun h=>by cases h⟩
 ·rw [List.append_nil,hsd,hres];exact trodAll_cons_mk (shut_bool Tryz.underlying4 _) trodAll_mk0
 ·rw [List.append_nil,hsd];exact trodAll_below laidOut hb hread hA
 ·rw [List.append_nil,hsd,hvars];rfl
end Sha
end Go.Proofs.YtddjdaocdfkgeaaGreatDoor
namespace Go.Proofs.YtddjdaocdfkgeaaGreatDoor
namespace Sha
open Go.ChangeShapes Go.WideShapes Go.ChangeAt Go.WideMaps Go.WideElems Go.RowKit Mem
set_option maxRecDepth 100000
theorem byte_of {n:Int} (h:(Lit.int .u8 n).wf=true):∃ x:BitVec 8,n=(x.toNat:Int):=by
 have h2:=h
 simp [Lit.wf,IntKind.min,IntKind.max,IntKind.signed,IntKind.bits] at h2
 refine ⟨BitVec.ofNat 8 n.toNat,?_⟩
 rw [BitVec.toNat_ofNat]
 omega
theorem bytes_of:∀ (zs:List Int),(∀ n∈zs,(Lit.int .u8 n).wf=true)→∃ l:Lb8,zs=l.map fun x=>(x.toNat:Int)
 | [],_=>⟨[],rfl⟩
 | z::zs,h=>by
  obtain ⟨x,hx⟩:=byte_of (h z (by simp))
  obtain ⟨l,hl⟩:=bytes_of zs (fun n hn=>h n (by simp [hn]))
  exact ⟨x::l,by simp [hx,hl]⟩
theorem cB:Tryz.prog.cellsOf 5=1:=by kernel_rfl
theorem cS:Tryz.prog.cellsOf 40=1:=by kernel_rfl
theorem sl_of {w:World} {a:Addr} {len:Nat} (cap:Nat) {zs:List Int} (hl:len≤cap) (hz:len≤zs.length) (hcell:∀ i,i < zs.length→w.cell? (a.add i)=some (.int .u8 (zs.getD i 0))) (hwz:∀ n∈zs,(Lit.int .u8 n).wf=true) :
 ∃ l,Sl w (.slice (some a) len cap) l∧l.length=len:=by
 obtain ⟨l,rfl⟩:=bytes_of zs hwz
 have hz':len≤l.length:=by simpa using hz
 have hlen:(l.take len).length=len:=by simp;omega
 refine ⟨l.take len,⟨some a,cap,by rw [hlen],by rw [hlen];exact hl,fun hne=>?_⟩,hlen⟩
 have hp:0 < len:=by
  rcases Nat.eq_zero_or_pos len with h | h
  ·subst h;simp at hne
  ·exact h
 have h0:=hcell 0 (by simp;omega)
 obtain ⟨b,o,ln⟩:=a
 have hsp:ln=none:=by simpa [Addr.add] using World.cell?_spot h0
 subst hsp
 refine ⟨b,o,rfl,?_,fun i hi=>?_⟩
 ·rw [Addr.add_mid] at h0
  exact block_lt_of_cell h0
 ·rw [hlen] at hi
  have h1:=hcell i (by simp;omega)
  rw [Addr.add_mid] at h1
  rw [h1]
  simp [List.getD_eq_getElem?_getD,hi,show i < l.length by omega]
theorem sl_nil (w:World) (cap:Nat):Sl w (.slice none 0 cap) []:=⟨none,cap,rfl,by simp,fun h=>absurd rfl h⟩
theorem cells_of_rows {H:Type} {enc:TypeId × Value→H} {P:Program} {w:World} {base:Nat} {sp:Nat→Bool} {held:Bool} {fuel:Nat} {t e1 e:TypeId} {n m:Nat} {k:IntKind} {cs:List Value} {rows:List (List Int)} {p:List MemPlace}
 (ht:P.underlying t=some (.array n e1)) (h1:P.underlying e1=some (.array m e)) (he:P.underlying e=some (.int k)) (hce:P.cellsOf e=1) (hc1:P.cellsOf e1=m) (hct:P.cellsOf t=n*m) (_hm:0 < m)
 (h:DataW.trod enc P w base sp held fuel t cs=some (.agg (rows.map (Lib.tabData k)),p)):cs.length=n*m∧∀ i,i < n→(cs.drop (i*m)).take m=(rows.getD i []).map fun z=>Value.int k z:=by
 obtain ⟨xs,m',_,hx,hl,hxl,hh⟩:=DataW.trod_array ht h
 refine ⟨by rw [hl,hct],fun i hi=>?_⟩
 have hi2:=hh i hi
 rw [hc1,List.getElem?_eq_getElem (by omega)] at hi2
 have hr:rows.map (Lib.tabData k)=xs.map (·.1):=by
  have:=congrArg Prod.fst hx
  simpa using this
 have hlen:rows.length=n:=by have:=congrArg List.length hr;simpa [hxl] using this
 have hrow:(xs[i]'(by omega)).1=(Lib.tabData k (rows.getD i []):DataW H):=by
  have e2:=congrArg (fun l=>l[i]?) hr
  simp only [List.getElem?_map,List.getElem?_eq_getElem (show i < xs.length by omega),List.getElem?_eq_getElem (show i < rows.length by omega),Option.map_some,Option.some.injEq] at e2
  rw [←e2]
  simp [List.getD_eq_getElem?_getD,hlen,hi]
 obtain ⟨x1,x2⟩:∃ a b,xs[i]'(by omega)=(a,b):=⟨_,_,rfl⟩
 rw [show xs[i]'(by omega)=((xs[i]'(by omega)).1,(xs[i]'(by omega)).2) from rfl,hrow] at hi2
 exact Lib.cells_of_tab h1 he hce hc1 hi2
end Sha
end Go.Proofs.YtddjdaocdfkgeaaGreatDoor
