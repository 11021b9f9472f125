/- My own texts, merged. -/
import Derived.Test.YtlhnegbjoncieaaGreatDoorBL04
import Derived.Test.YtlhnegbjoncieaaGreatDoorBL00
import Derived.Test.YtlhnegbjoncieaaGreatDoorBL05
import Derived.Laws.Tables
import Derived.Test.YtlhnegbjoncieaaGreatDoorBL06
import Derived.Test.YtlhnegbjoncieaaGreatDoorBL03
import Derived.Test.YtlhnegbjoncieaaGreatDoorRows
import Derived.ProofKit
import Derived.LaidMore
import Derived.LaidHandle
import Derived.OpenShut
import Derived.Stop.Joined
import Derived.Lib.LaidTab
import Derived.MakeChecks
import Derived.SevenTiedAt
import Derived.Carry
import Derived.ChangeOld
import Derived.Deep.Matrix
import Derived.Deep.Strs
import Derived.Lib.SmallJoins
set_option maxRecDepth 100000
set_option maxHeartbeats 1000000
namespace Go.Proofs.YtlhnegbjoncieaaGreatDoor
namespace Sha
open Go.RowKit Mem
def Sl (w:World) (v:Value) (l:Lb8):Prop:=
 ∃ a cap,v=.slice a l.length cap∧l.length≤cap∧(l≠[]→∃ bb oo,a=some ⟨bb,oo,none⟩∧bb < w.heap.size∧∀ i,i < l.length→w.cell? ⟨bb,oo+i,none⟩=some (.int .u8 ((l.getD i 0).toNat:Int)))
theorem infoB:(Tryz.prog.info? 5).map (·.size)=some 1:=by kernel_rfl
theorem sl_drop {w:World} {bb oo m cap k:Nat} {a1:Option Addr} {rest:Lb8} (hm:m=rest.length) (hk:k≤m) (hcap:m≤cap) (hbb:bb < w.heap.size)
 (hc:∀ i,i < rest.length→w.cell? ⟨bb,oo+i,none⟩=some (.int .u8 ((rest.getD i 0).toNat:Int)))
 (ha:∀ bb' oo',some (⟨bb,oo,none⟩:Addr)=some ⟨bb',oo',none⟩→k < cap→a1=some ⟨bb',oo'+k,none⟩):Sl w (.slice a1 (m - k) (cap - k)) (rest.drop k):=by
 refine ⟨a1,cap - k,by rw [List.length_drop,hm],by rw [List.length_drop];omega,fun hne=>?_⟩
 have hlt:k < m:=by
  rcases Nat.lt_or_ge k m with h | h
  ·exact h
  ·exact absurd (List.drop_of_length_le (by omega)) hne
 refine ⟨bb,oo+k,ha bb oo rfl (by omega),hbb,fun i hi=>?_⟩
 rw [List.length_drop] at hi
 have:=hc (k+i) (by omega)
 rw [←Nat.add_assoc] at this
 rw [this]
 simp [List.getD_eq_getElem?_getD,List.getElem?_drop]
theorem Sl.below {w wr:World} {v:Value} {l:Lb8} (h:Sl w v l) (hb:Below w.heap.size w wr):Sl wr v l:=by
 obtain ⟨a,cap,e,hc,hr⟩:=h
 refine ⟨a,cap,e,hc,fun hne=>?_⟩
 obtain ⟨bb,oo,ea,hlt,hcell⟩:=hr hne
 exact ⟨bb,oo,ea,Nat.lt_of_lt_of_le hlt hb.size,fun i hi=>by rw [hb.cell (p:=⟨bb,oo+i,none⟩) hlt];exact hcell i hi⟩
def OwnB (w:World) (B:Nat) (v:Value) (l:Lb8):Prop:=w.ownsRow B 5 1 v l.length (u8s l)
theorem infoU8:(Tryz.prog.info? 5).map (fun i=>(i.zero,i.size,i.bytes))=some (some (.int .u8 0),1,1):=by kernel_rfl
theorem OwnB.nil (w:World) (B:Nat):OwnB w B (.slice none 0 0) []:=World.ownsRow_nil w B _ 1
theorem OwnB.open {w:World} {B:Nat} {v:Value} {l:Lb8} (h:OwnB w B v l):∃ a cap,v=.slice a l.length cap∧l.length≤cap ∧
 (l≠[]→∃ g,a=some ⟨g,0,none⟩∧B≤g∧g < w.heap.size∧∀ i,i < l.length→w.cell? ⟨g,i,none⟩=some (.int .u8 ((l.getD i 0).toNat:Int))):=by
 obtain ⟨_,h | ⟨g,cap,cur,rfl,hg,hh,hn,hc,hs,ht⟩⟩:=h
 ·obtain ⟨rfl,h0⟩:=h
  exact ⟨none,0,by rw [h0],by omega,fun hne=>absurd (List.eq_nil_of_length_eq_zero h0) hne⟩
 ·refine ⟨_,cap,rfl,hn,fun _=>⟨g,rfl,hg,(Array.getElem?_eq_some_iff.1 hh).1,fun i hi=>?_⟩⟩
  rw [cell_of_row w g i cur _ (0,0) hh]
  have h1:(cur.toList.take (l.length*1))[i]?=(u8s l)[i]?:=by rw [ht]
  rw [List.getElem?_take,if_pos (by omega)] at h1
  rw [←Array.getElem?_toList,h1,u8s_get l i hi]
theorem OwnB.sl {w:World} {B:Nat} {v:Value} {l:Lb8} (h:OwnB w B v l):Sl w v l:=by
 obtain ⟨a,cap,rfl,hc,hr⟩:=h.open
 refine ⟨a,cap,rfl,hc,fun hne=>?_⟩
 obtain ⟨g,ea,_,hlt,hcell⟩:=hr hne
 exact ⟨g,0,ea,hlt,fun i hi=>by rw [Nat.zero_add];exact hcell i hi⟩
theorem OwnB.keep {w w':World} {B:Nat} {v:Value} {l:Lb8} (h:OwnB w B v l) (hk:∀ g,v.ownBlock=some g→w'.heap[g]?=w.heap[g]?):OwnB w' B v l:=by
 refine ⟨h.1,?_⟩
 rcases h.2 with hn | ⟨g,cap,cur,rfl,hg,hh,hr⟩
 ·exact .inl hn
 ·exact .inr ⟨g,cap,cur,rfl,hg,by rw [hk g rfl];exact hh,hr⟩
theorem OwnB.lt {w:World} {B:Nat} {v:Value} {l:Lb8} (h:OwnB w B v l):∀ k,v.ownBlock=some k→B≤k∧k < w.heap.size:=World.ownsRow.lt h
theorem OwnB.below {w w':World} {B:Nat} {v:Value} {l:Lb8} (h:OwnB w B v l) (hb:Below w.heap.size w w'):OwnB w' B v l:=
 h.keep fun g hg=>hb.block g (h.lt g hg).2
theorem OwnB.ne_at {w:World} {B b:Nat} {v:Value} {l:Lb8} {C:Array Value} {t:TypeId} (h:OwnB w B v l) (hC:At w b C t) (ht:t≠5):v.ownBlock≠some b:=by
 rcases h.2 with ⟨rfl,_⟩ | ⟨g,cap,cur,rfl,hg,hh,hr⟩
 ·simp [Value.ownBlock]
 ·intro e
  have:g=b:=by simpa [Value.ownBlock] using e
  subst this
  unfold At at hC
  rw [hh] at hC
  injection hC with hC
  injection hC with _ h2
  exact ht h2.symm
theorem run_append_nil_src {w:World} {B:Nat} {v:Value} {l:Lb8} (h:OwnB w B v l) (ty:TypeId) (c:Nat):(Builtin.append_ #[31,31] ty #[v,.slice none 0 c]).run Tryz.prog w=.ok v w:=by
 obtain ⟨i0,hi,_,_,_⟩:=info_parts infoU8
 rcases h.2 with ⟨rfl,_⟩ | ⟨g,cap,cur,rfl,_,_,hn,_⟩
 ·simp [Builtin.append_,run_underlying Tryz.underlying31,sizeOf,typeInfo,hi,Builtin.lenOf,Builtin.firstCells]
 ·simp [Builtin.append_,run_underlying Tryz.underlying31,sizeOf,typeInfo,hi,Builtin.lenOf,Builtin.firstCells,hn,storeCells]
set_option maxRecDepth 10000 in
theorem run_append_bytes {w:World} {B:Nat} {v vx:Value} {l m:Lb8} (hown:OwnB w B v l) (hsl:Sl w vx m) (hlen:l.length+m.length≤140737488355328) (hB:B≤w.heap.size) (ty:TypeId) :
 ∃ v' w',(Builtin.append_ #[31,31] ty #[v,vx]).run Tryz.prog w=.ok v' w'∧OwnB w' B v' (l++m)∧w.grownBy w' v.ownBlock:=by
 obtain ⟨a0,cap,rfl,hc,hr⟩:=hsl
 obtain ⟨i0,hi,hz0,hz1,hz2⟩:=info_parts infoU8
 have hml:maxLen=281474976710656∨140737488355328≤maxLen:=.inr (by simp [maxLen])
 cases a0 with
 | none=>
  have hm:m=[]:=by
   rcases m with _ | ⟨x,m⟩
   ·rfl
   ·obtain ⟨_,_,h,_⟩:=hr (by simp)
    cases h
  subst hm
  exact ⟨v,w,run_append_nil_src hown ty cap,by simpa using hown,World.grownBy.refl w _⟩
 | some ad=>
  have hcells:∀ j u,(u8s m)[j]?=some u→w.cell? (ad.add j)=some u:=by
   intro j u hu
   have hj:j < m.length:=by
    have:=(List.getElem?_eq_some_iff.1 hu).1
    rwa [u8s_length] at this
   obtain ⟨bb,oo,e,_,hcell⟩:=hr (by intro e;rw [e] at hj;simp at hj)
   injection e with e
   subst e
   rw [Addr.add_mid,hcell j hj,←hu,u8s_get m j hj]
  have h1:∀ u∈u8s m,u.oneCell'=true:=by
   intro u hu
   obtain ⟨x,_,rfl⟩:=List.mem_map.1 hu
   rfl
  obtain ⟨v',w',hrun,h2,h3,_,_⟩:=run_append_own_at (P:=Tryz.prog) w B 31 ty 5 i0 (.int .u8 0) 1 1 Tryz.underlying31 hi hz0 hz1 hz2 rfl (by decide) v l.length (u8s l) hown ad m.length cap (u8s m) (by rw [u8s_length,Nat.mul_one]) hcells h1 (by rcases hml with h | h <;> omega) (by omega) hB
  refine ⟨v',w',hrun,?_,h3⟩
  unfold OwnB
  rw [List.length_append,show u8s (l++m)=u8s l++u8s m by simp [u8s]]
  exact h2
theorem wpList_append_bytes {w:World} {ops:Array Oper} {rest:List Oper} {o:Oper} {a:Act} {Q:Exit→Act→World→Prop} (hgd:o.guard=none) (s x:Operand)
 (ho:o.op=.call { callee:=.builtin .append,args:=#[s,x],argTypes:=#[31,31] }) (B:Nat) (v vx:Value) (l m:Lb8)
 (hs:a.eval s=v) (hown:OwnB w B v l) (hx:a.eval x=vx) (hsl:Sl w vx m) (hlen:l.length+m.length≤140737488355328) (hB:B≤w.heap.size)
 (h:∀ v' w',OwnB w' B v' (l++m)→(∀ k,k < w.heap.size→v.ownBlock≠some k→w'.heap[k]?=w.heap[k]?)→Below B w w'→wpList Tryz.prog ops Q rest (a.put o.dst v') w'):wpList Tryz.prog ops Q (o::rest) a w:=by
 refine wpList_plain hgd fun K hK=>?_
 obtain ⟨v',w',hrun,h2,h3⟩:=run_append_bytes hown hsl hlen hB o.type
 unfold Oper.wp execOp
 simp only [ho,resolve,invoke,builtin,Sem.run_bind,Sem.run_pure,Result.andThen_ok,List.map_toArray,List.map_cons,List.map_nil,hs,hx,hrun]
 exact hK _ _ (h v' w' h2 (fun k hk hne=>h3.block k hk (fun e=>hne e.symm)) ((Below.refl _ _).grown h3 hB (fun g hg=>(hown.lt g hg).1)))
theorem wpList_copy_sl {w:World} {ops:Array Oper} {rest:List Oper} {op:Oper} {a:Act} {Q:Exit→Act→World→Prop} (hgd:op.guard=none) (x y:Operand)
 (ho:op.op=.call { callee:=.builtin .copy,args:=#[x,y],argTypes:=#[31,31] }) (b o dLen dCap:Nat) (vy:Value) (l:Lb8) (hx:a.eval x=.slice (some ⟨b,o,none⟩) dLen dCap) (hy:a.eval y=vy) (hl:Sl w vy l)
 (k:Nat) (hk:k=Nat.min l.length dLen) (C:Array Value) (t:TypeId) (hC:At w b C t) (hfit:o+k≤C.size) (E:Array Value) (hE:Mem.splice C o (u8s (l.take k))=E)
 (h:∀ w',At w' b E t→w'.heap.size=w.heap.size→(∀ k,k≠b→w'.heap[k]?=w.heap[k]?)→(∀ B a,Below B a w→B≤b→Below B a w')→wpList Tryz.prog ops Q rest (a.put op.dst (.int .i64 (k:Int))) w'):wpList Tryz.prog ops Q (op::rest) a w:=by
 obtain ⟨a0,cap,rfl,_,hr⟩:=hl
 have hkl:k≤l.length:=by rw [hk];exact Nat.min_le_left _ _
 have hlen:(u8s (l.take k)).length=k:=by rw [u8s_length,List.length_take];omega
 by_cases h0:k=0
 ·subst h0
  refine wpList_copy_nothing hgd x y _ _ ho 5 Tryz.underlying31 infoB (some ⟨b,o,none⟩) a0 dLen dCap l.length cap hx hy hk.symm ?_
  have hEC:E=C:=by rw [←hE];simp [Mem.splice,u8s]
  rw [hEC] at h
  exact h w hC rfl (fun _ _=>rfl) (fun _ _ hb _=>hb)
 ·obtain ⟨bb,oo,rfl,_,hc⟩:=hr (by intro e;rw [e] at hkl;simp at hkl;omega)
  refine wpList_copy_at hgd x y _ _ ho 5 Tryz.underlying31 infoB b o dLen dCap ⟨bb,oo,none⟩ l.length cap hx hy (u8s (l.take k)) (by rw [hlen];exact hk) (fun j v hj=>?_) (fun v hv=>?_) C t hC (by rw [hlen];exact hfit) E hE k hlen h
  ·have hjk:j < k:=by
    have:=(List.getElem?_eq_some_iff.1 hj).1
    rwa [hlen] at this
   rw [Addr.add_mid,hc j (by omega),←hj,u8s_get _ _ (by rw [List.length_take];omega)]
   simp [List.getD_eq_getElem?_getD,hjk]
  ·obtain ⟨_,_,rfl⟩:=List.mem_map.1 hv
   rfl
theorem elemB8:elemB Tryz.prog 31 5 (.int .u8 0) 1:=⟨Tryz.underlying31,infoU8⟩
def PadEnd (w:World) (T:Lb8) (e:Ending) (w':World):Prop:=∃ v,e=.returned v∧OwnB w' w.heap.size v T∧Below w.heap.size w w'
theorem at_sl {w:World} {b n:Nat} {l:Lb8} {t:TypeId} (h:At w b (u8s l).toArray t) (hn:l.length=n):Sl w (.slice (some ⟨b,0,none⟩) n n) l:=by
 subst hn
 refine ⟨_,_,rfl,Nat.le_refl _,fun _=>⟨b,0,rfl,h.lt,fun i hi=>?_⟩⟩
 rw [Nat.zero_add,h.cell,List.getElem?_toArray,u8s_get l i hi]
theorem sl_at {w:World} {a:Option Addr} {cap:Nat} {l:Lb8} (h:Sl w (.slice a l.length cap) l) {i:Nat} (hi:i < l.length) :
 ∃ b o,a=some ⟨b,o,none⟩∧w.cell? ⟨b,o+i,none⟩=some (.int .u8 (B8 (l.getD i 0))):=by
 obtain ⟨a',cap',e,_,hr⟩:=h
 injection e with e1 _ _
 obtain ⟨b,o,ea,_,hc⟩:=hr (by intro e;rw [e] at hi;simp at hi)
 exact ⟨b,o,by rw [e1];exact ea,hc i hi⟩
theorem own_full {w:World} {B g n:Nat} {e:TypeId} {xs:List Value} (h:w.ownsRow B e 1 (.slice (some ⟨g,0,none⟩) n n) n xs):At w g xs.toArray e:=by
 obtain ⟨hl,h | ⟨g',cap,cur,e1,_,hh,_,_,hc,ht⟩⟩:=h
 ·cases h.1
 ·injection e1 with e1 _ e2
  injection e1 with e1
  injection e1 with e1
  subst e1;subst e2
  have:cur=xs.toArray:=by
   rw [←ht,List.take_of_length_le (by simp [hc])]
  rw [←this];exact hh
theorem made_zeros (n:Nat):(madeCells (Value.int .u8 0).cells (n*1)).toList=u8s (List.replicate n 0):=by
 rw [madeCells,Nat.mul_one]
 apply List.ext_getElem
 ·simp [u8s]
 ·intro i h1 h2
  simp [u8s,Value.cells,Nat.mod_one]
theorem infoDg:(Tryz.prog.info? 22).map (·.size)=some 32:=by kernel_rfl
theorem sizeB1 (w:World):(sizeOf 5).run Tryz.prog w=.ok 1 w:=by kernel_rfl
set_option maxRecDepth 10000 in
theorem eq32 (d:Nat) (l m:Lb8) (hl:l.length=32) (hm:m.length=32) (w:World):(Op.equalIn (d+2) 22 (.agg (u8s l).toArray) (.agg (u8s m).toArray)).run Tryz.prog w=.ok (l == m) w:=by
 have e1:∀ k:Lb8,u8s k=(k.map fun x=>(x.toNat:Int)).map (Value.int .u8):=fun k=>by simp [u8s]
 have h:=run_equalIn_ints (P:=Tryz.prog) w d 22 5 .u8 32 Tryz.underlying22 Tryz.underlying5 sizeB1 (l.map fun x=>(x.toNat:Int)) (m.map fun x=>(x.toNat:Int)) (by simpa using hl) (by simpa using hm)
 rw [e1,e1,h]
 congr 1
 rw [Bool.eq_iff_iff,beq_iff_eq,beq_iff_eq]
 exact (List.map_inj_right (fun a b h=>by apply BitVec.eq_of_toNat_eq;omega)).trans Iff.rfl
theorem neqDg (l m:Lb8) (hl:l.length=32) (hm:m.length=32) (x y:Operand) (w:World):(do eqGuard .neq 22 x y (.agg (u8s l).toArray) (.agg (u8s m).toArray);binOp .neq 22 (.agg (u8s l).toArray) (.agg (u8s m).toArray):Sem Value).run Tryz.prog w=.ok (.bool (!(l == m))) w:=by
 rw [Sem.run_bind,run_eqGuard_agg w .neq 22 x y _ _ (by kernel_rfl),Result.andThen_ok,run_neq_struct,eq32 9998 l m hl hm w];rfl
structure RefV where
 pl:Int
 ep:BitVec 32
 dg:Lb8
structure RefV.Wf (r:RefV):Prop where
 p0:-9223372036854775808≤r.pl
 p1:r.pl≤9223372036854775807
 dg:r.dg.length=32
def refL (r:RefV):List Value:=[.int .i64 r.pl,.int .u32 (V r.ep)]++u8s r.dg
def refC (r:RefV):Array Value:=(refL r).toArray
theorem refC_size {r:RefV} (h:r.Wf):(refC r).size=34:=by simp [refC,refL,u8s_length,h.dg]
theorem refC_one (r:RefV):(refC r).all (·.oneCell')=true:=by
 rw [Array.all_eq_true]
 intro i hi
 have hm:(refC r)[i]∈refL r:=by
  have h:(refC r)[i]∈refC r:=Array.getElem_mem hi
  exact Array.mem_toList_iff.2 h
 generalize (refC r)[i]=u at hm
 simp only [refL,List.mem_append,List.mem_cons,List.not_mem_nil,or_false] at hm
 rcases hm with (rfl | rfl) | hm
 all_goals first | rfl | exact u8s_cells _ _ hm
theorem ref0 (r:RefV):(refC r)[0]?=some (.int .i64 r.pl):=by simp [refC,refL]
theorem ref1 (r:RefV):(refC r)[1]?=some (.int .u32 (V r.ep)):=by simp [refC,refL]
theorem ref_dg {r:RefV} (h:r.Wf) (i:Nat) (hi:i < 32):(refC r)[2+i]?=some (.int .u8 ((r.dg.getD i 0).toNat:Int)):=by
 have e:=u8s_get r.dg i (by rw [h.dg];exact hi)
 rw [←e]
 simp only [refC,refL,List.getElem?_toArray]
 rw [List.getElem?_append_right (by simp)]
 simp
theorem ref_dgRow {r:RefV} (h:r.Wf):(refC r).extract 2 (2+32)=(u8s r.dg).toArray:=by
 apply Array.ext'
 simp [refC,refL]
 exact List.take_of_length_le (by rw [u8s_length,h.dg];exact Nat.le_refl _)
def zref:RefV:=⟨0,0,List.replicate 32 0⟩
theorem zref_wf:zref.Wf:=⟨by decide,by decide,by decide⟩
theorem V_inj {x y:BitVec 32} (h:V x=V y):x=y:=by
 apply BitVec.eq_of_toNat_eq
 have:(x.toNat:Int)=(y.toNat:Int):=h
 omega
def sameRef (a b:RefV):Bool:=(a.pl == b.pl) && ((V a.ep == V b.ep) && (a.dg == b.dg))
theorem sameRef_iff (a b:RefV):sameRef a b=true ↔ a=b:=by
 obtain ⟨p,e,d⟩:=a
 obtain ⟨p',e',d'⟩:=b
 simp only [sameRef,Bool.and_eq_true,beq_iff_eq,RefV.mk.injEq]
 exact ⟨fun ⟨h1,h2,h3⟩=>⟨h1,V_inj h2,h3⟩,fun ⟨h1,h2,h3⟩=>⟨h1,by rw [h2],h3⟩⟩
theorem sameRef_self (a:RefV):sameRef a a=true:=(sameRef_iff a a).2 rfl
def layRf (r:RefV):Lb8:=[BitVec.ofInt 8 r.pl]++le4 r.ep++r.dg
theorem layRf_length {r:RefV} (h:r.Wf):(layRf r).length=37:=by simp [layRf,le4,h.dg]
def rfOf (b:Lb8):RefV:=⟨((b.getD 0 0).toNat:Int),lew (b.drop 1) 0,b.drop 5⟩
theorem rfOf_wf (b:Lb8) (h:b.length=37):(rfOf b).Wf:=by
 have:=(b.getD 0 0).isLt
 exact ⟨by show _≤((b.getD 0 0).toNat:Int);omega,by show ((b.getD 0 0).toNat:Int)≤_;omega,by simp [rfOf,h]⟩
def parseRf (b:Lb8):RefV × Int:=if b.length≠37∨1 < (b.getD 0 0).toNat then (zref,1) else (rfOf b,0)
theorem lew_le4 (x:BitVec 32) (t:Lb8):lew (le4 x++t) 0=x:=by
 simp only [lew,le4,List.cons_append,List.nil_append,Nat.mul_zero,Nat.zero_add,List.getD_cons_zero,List.getD_cons_succ,wb]
 apply BitVec.eq_of_getLsbD_eq
 intro i hi
 simp only [BitVec.getLsbD_or,BitVec.getLsbD_shiftLeft,BitVec.getLsbD_setWidth,BitVec.getLsbD_ushiftRight]
 rcases (by omega:i < 8∨(8≤i∧i < 16)∨(16≤i∧i < 24)∨24≤i) with h | h | h | h
 ·simp [hi,h,show i < 24 by omega,show i < 16 by omega]
 ·simp [hi,show ¬ i < 8 by omega,show i < 24 by omega,show i < 16 by omega,show i - 8 < 8 by omega,show i - 8 < 32 by omega,show 8+(i - 8)=i by omega]
 ·simp [hi,show ¬ i < 8 by omega,show i < 24 by omega,show ¬ i < 16 by omega,show ¬ i - 8 < 8 by omega,show i - 16 < 8 by omega,show i - 16 < 32 by omega,show 16+(i - 16)=i by omega]
 ·simp [hi,show ¬ i < 8 by omega,show ¬ i < 24 by omega,show ¬ i < 16 by omega,show ¬ i - 8 < 8 by omega,show ¬ i - 16 < 8 by omega,show i - 24 < 8 by omega,show i - 24 < 32 by omega,show 24+(i - 24)=i by omega]
theorem le4_lew (a b c d:BitVec 8) (t:Lb8):le4 (lew (a::b::c::d::t) 0)=[a,b,c,d]:=by
 have key:∀ (k:Nat) (z:BitVec 8),(∀ i,i < 8→(lew (a::b::c::d::t) 0).getLsbD (k+i)=z.getLsbD i)→wb (lew (a::b::c::d::t) 0) k=z:=by
  intro k z h
  apply BitVec.eq_of_getLsbD_eq
  intro i hi
  rw [wb,BitVec.getLsbD_setWidth,BitVec.getLsbD_ushiftRight]
  simp [hi,h i hi]
 have z8:∀ (y:BitVec 8) (i:Nat),8≤i→y.getLsbD i=false:=fun y i h=>BitVec.getLsbD_of_ge y i h
 have hl:∀ i,(lew (a::b::c::d::t) 0).getLsbD i=(((decide (i < 32) && !decide (i < 24) && (decide (i - 24 < 32) && d.getLsbD (i - 24))) || (decide (i < 32) && !decide (i < 16) && (decide (i - 16 < 32) && c.getLsbD (i - 16)))) || (decide (i < 32) && !decide (i < 8) && (decide (i - 8 < 32) && b.getLsbD (i - 8)))
  || (decide (i < 32) && a.getLsbD i)):=by
  intro i
  simp only [lew,Nat.mul_zero,Nat.zero_add,List.getD_cons_zero,List.getD_cons_succ,BitVec.getLsbD_or,BitVec.getLsbD_shiftLeft,BitVec.getLsbD_setWidth]
 simp only [le4]
 rw [key 0 a,key 8 b,key 16 c,key 24 d]
 ·intro i hi
  rw [hl]
  simp [show 24+i < 32 by omega,show ¬ 24+i < 24 by omega,show ¬ 24+i < 16 by omega,show ¬ 24+i < 8 by omega,show 24+i - 24=i by omega,z8 c (24+i - 16) (by omega),z8 b (24+i - 8) (by omega),z8 a (24+i) (by omega),show i < 32 by omega]
 ·intro i hi
  rw [hl]
  simp [show 16+i < 32 by omega,show 16+i < 24 by omega,show ¬ 16+i < 16 by omega,show ¬ 16+i < 8 by omega,show 16+i - 16=i by omega,z8 b (16+i - 8) (by omega),z8 a (16+i) (by omega),show i < 32 by omega]
 ·intro i hi
  rw [hl]
  simp [show 8+i < 32 by omega,show 8+i < 24 by omega,show 8+i < 16 by omega,show ¬ 8+i < 8 by omega,show 8+i - 8=i by omega,show i < 32 by omega]
 ·intro i hi
  rw [hl]
  simp [hi,show i < 32 by omega,show i < 24 by omega,show i < 16 by omega]
def SEnd (w:World) (L:Lb8) (e:Ending) (w':World):Prop:=
 ∃ g,e=.returned (.slice (some ⟨g,0,none⟩) L.length L.length)∧At w' g (u8s L).toArray 5∧w.heap.size≤g∧Below w.heap.size w w'
def RSEnd (w:World) (L:Lb8) (e:Ending) (w':World):Prop:=∃ v,e=.returned v∧Sl w' v L∧Below w.heap.size w w'
theorem sl_none (w:World):Sl w (.slice none 0 0) []:=⟨none,0,rfl,by simp,fun h=>absurd rfl h⟩
def rowZ (l:Lb8) (n i:Nat):Lb8:=l.take i++List.replicate (n - i) 0
theorem rowZ_length (l:Lb8) (n i:Nat) (hl:l.length=n) (h:i≤n):(rowZ l n i).length=n:=by simp [rowZ,hl];omega
theorem rowZ_set (l:Lb8) (n i:Nat) (hl:l.length=n) (h:i < n):(rowZ l n i).set i (l.getD i 0)=rowZ l n (i+1):=by
 unfold rowZ
 have hi:i < l.length:=by omega
 rw [List.set_append_right _ _ (by rw [List.length_take];omega),List.length_take,Nat.min_eq_left (by omega),Nat.sub_self,show n - i=(n - (i+1))+1 by omega,List.replicate_succ,List.set_cons_zero,List.take_succ_eq_append_getElem hi,List.append_assoc]
 simp [List.getD_eq_getElem?_getD,hi]
theorem rowZ_all (l:Lb8) (n:Nat) (hl:l.length=n):rowZ l n n=l:=by
 unfold rowZ
 rw [List.take_of_length_le (by omega)]
 simp
def qOf (q:Q4):Array Value:=(u32s q.list).toArray
def Z4:Array Value:=(u32s [0,0,0,0]).toArray
theorem zero4 (w:World):(zeroValue 293).run Tryz.prog w=.ok (.agg Z4) w:=by kernel_rfl
theorem infoQ:(Tryz.prog.info? 293).map (·.size)=some 4:=by kernel_rfl
theorem infoU32:(Tryz.prog.info? 36).map (·.size)=some 1:=by kernel_rfl
structure TabV (w:World) (g:Nat) (cs:List Value):Prop where
 lt:g < w.heap.size
 c:w.rangeAt g 0 cs
theorem TabV.below {w w':World} {B g:Nat} {cs:List Value} (h:TabV w g cs) (hb:Below B w w') (hlt:g < B):TabV w' g cs:=
 ⟨Nat.lt_of_lt_of_le h.lt hb.size,fun j v hv=>by rw [hb.cell (p:=⟨g,0+j,none⟩) hlt];exact h.c j v hv⟩
def rowY (l:List (BitVec 32)) (n i:Nat):List (BitVec 32):=l.take i++List.replicate (n - i) 0
theorem rowY_length (l:List (BitVec 32)) (n i:Nat) (hl:l.length=n) (h:i≤n):(rowY l n i).length=n:=by simp [rowY,hl];omega
theorem rowY_set (l:List (BitVec 32)) (n i:Nat) (hl:l.length=n) (h:i < n):(rowY l n i).set i (l.getD i 0)=rowY l n (i+1):=by
 unfold rowY
 have hi:i < l.length:=by omega
 rw [List.set_append_right _ _ (by rw [List.length_take];omega),List.length_take,Nat.min_eq_left (by omega),Nat.sub_self,show n - i=(n - (i+1))+1 by omega,List.replicate_succ,List.set_cons_zero,List.take_succ_eq_append_getElem hi,List.append_assoc]
 simp [List.getD_eq_getElem?_getD,hi]
theorem rowY_all (l:List (BitVec 32)) (n:Nat) (hl:l.length=n):rowY l n n=l:=by
 unfold rowY
 rw [List.take_of_length_le (by omega)]
 simp
def lenOf:Value→Nat | .slice _ n _=>n | _=>0
def Zst:Array Value:=stRow (List.replicate 8 0) zs64 0
def ZT:Array Value:=(u8s zs64).toArray
theorem zeroSt (w:World):(zeroValue 245).run Tryz.prog w=.ok (.agg Zst) w:=by kernel_rfl
theorem infoSt:(Tryz.prog.info? 245).map (·.size)=some 73:=by kernel_rfl
theorem stRow_one {H:List (BitVec 32)} {T:Lb8} {n:Nat}:(stRow H T n).all (·.oneCell')=true:=by
 simp [stRow,stL,u32s,u8s,Value.oneCell']
theorem ZT_size:ZT.size=64:=by simp [ZT,u8s,zs64]
theorem Zst_size:Zst.size=73:=stRow_size (by simp) (by simp [zs64])
structure WInv (s:Fed) (N:Nat) (B:Nat) (w wr:World):Prop where
 c:At wr B (stRow s.H s.T N) 245
 z:At wr (B+1) Zst 245
 b:Below B w wr
def WRel (s:Fed) (l:Lb8) (N:Nat) (w:World) (vb va:Value) (wr:World):Prop:=
 ∃ done rest,l=done++rest∧Sl w vb rest∧va=.int .i64 ((feeds s done).at':Int)∧WInv (feeds s done) N w.heap.size w wr
theorem write_any (s:Fed) (hs:Ok s) (n:Nat) (hn:n % 64=s.at') (l:Lb8) (v:Value) (w:World) (hN:n+l.length≤9223372036854775807) (hv:Sl w v l) (hL:Tabs w) :
 Calls Tryz.prog 181 #[.agg (stRow s.H s.T n),v] w fun e w'=>e=.returned (.agg (stRow (feeds s l).H (feeds s l).T (n+l.length)))∧Below w.heap.size w w':=by
 have hv0:=hv
 obtain ⟨a0,cap0,rfl,hcap0,_⟩:=hv
 obtain ⟨C,hC⟩:∃ C,C=stRow s.H s.T n:=⟨_,rfl⟩
 obtain ⟨Z,hZ⟩:∃ Z,Z=Zst:=⟨_,rfl⟩
 obtain ⟨N,hNN⟩:∃ N,N=n+l.length:=⟨_,rfl⟩
 have hz:=zeroSt
 rw [←hZ] at hz
 rw [←hC]
 have hsz:C.size=73:=by rw [hC];exact stRow_size hs.h hs.t
 have h72:C[72]?=some (.int .u64 (n:Int)):=by rw [hC];exact stRow_n hs.h hs.t
 have hmod:((n % 64:Nat):Int)=(s.at':Int):=by rw [hn]
 have aC:At ((w.alloc (.cells C 245)).alloc (.cells Z 245)) w.heap.size C 245:=(at_new w C _).alloc _
 have aZ:At ((w.alloc (.cells C 245)).alloc (.cells Z 245)) (w.heap.size+1) Z 245:=by
  have:=at_new (w.alloc (.cells C 245)) Z 245
  simpa using this
 have b1:Below w.heap.size w ((w.alloc (.cells C 245)).alloc (.cells Z 245)):=((Below.refl _ _).alloc (Nat.le_refl _) _).alloc (by simp) _
 have s1:((w.alloc (.cells C 245)).alloc (.cells Z 245)).heap.size=w.heap.size+2:=by simp
 have HC:=zh hC;have HZ:=zh hZ;have HNN:=zh hNN;have HSZ:=zh hsz;have H72:=zh h72;have HM:=zh hmod;have AC:=zh aC;have AZ:=zh aZ;have B1:=zh b1;have S1:=zh s1
 have HV:=zh hv0;have HLT':=zh hL;have HS:=zh hs;have HMOD:=zh hn
 clear hC hZ hNN hsz h72 hmod aC aZ b1 s1 hv0 hL hs hn
 have TS:Hid (∀ w:World,Calls Tryz.prog 195 #[.agg C] w fun e w'=>e=.returned (.int .i64 (s.at':Int))∧Below w.heap.size w w'):=fun w=>by
  have:=tailSize_any C n w H72.out
  rw [HM.out] at this
  exact this
 go_enter Tryz.func181,Tryz.ntmps181
 go_wp2_with (first | (refine wpList_load_all zr 245 _ zr _ zr _ Tryz.underlying245 zr _ _ AC.out (by rw [HSZ.out];exact infoSt) ?_) | (go_at_call 195;refine (TS.out _).mono ?_;rintro e w2 ⟨rfl,hb2⟩;have a2:=AC.out.below hb2 (by rw [S1.out];omega);have c72:=(a2.cell 72).trans H72.out;have f72:=a2.free 72;have A2:=zh a2;have HB2:=zh hb2;clear a2 hb2))
 have hI0:WInv s N w.heap.size w (w2.setCell ⟨w.heap.size,72,none⟩ (.int .u64 ((n:Int)+(l.length:Int)))):=by
  have hb2:=HB2.out
  rw [S1.out] at hb2
  refine ⟨?_,?_,(B1.out.trans (hb2.mono (by omega))).setCell (by simp) _⟩
  ·have h:=A2.out.set 72 (.int .u64 ((N:Nat):Int))
   rw [HC.out,stRow_set HS.out.h HS.out.t] at h
   rw [←Int.natCast_add,←HNN.out]
   exact h
  ·rw [←HZ.out];exact (AZ.out.below hb2 (by omega)).set_other _ _ (by simp)
 have HI0:=zh hI0
 clear hI0 c72 f72 hz
 go_loopw [1,5,6] (fun vb va _ wr=>WRel s l N w vb va wr) (fun vb _ _ _=>lenOf vb)
 case atStart=>exact ⟨[],l,rfl,HV.out,rfl,HI0.out⟩
 case round=>
  obtain ⟨done,rest,hl,⟨a,cap,rfl,hcap,hcells⟩,rfl,hI⟩:=hrel
  have hok:=feeds_ok done HS.out
  obtain ⟨F,hF⟩:∃ F,F=feeds s done:=⟨_,rfl⟩
  rw [←hF] at hI hok ⊢
  obtain ⟨m,hm⟩:∃ m,m=rest.length:=⟨_,rfl⟩
  rw [←hm] at hcap ⊢
  have HF:=zh hF;have HL:=zh hl;have HI:=zh hI;have HOK:=zh hok;have HMM:=zh hm;have HCE:=zh hcells
  clear hF hl hI hok hcells
  by_cases hne:m=0
  ·have hlen:¬ (0:Int) < (m:Int):=by omega
   have hr0:rest=[]:=List.eq_nil_of_length_eq_zero (by rw [←hm];exact hne)
   have hld:l=done:=by rw [HL.out,hr0,List.append_nil]
   have hA:=HI.out.c
   obtain ⟨G,hG⟩:∃ G,G=stRow F.H F.T N:=⟨_,rfl⟩
   rw [←hG] at hA
   have hGs:G.size=73:=by rw [hG];exact stRow_size HOK.out.h HOK.out.t
   have hGo:G.all (·.oneCell')=true:=by rw [hG];exact stRow_one
   have hfin:stRow (feeds s l).H (feeds s l).T (n+l.length)=G:=by rw [hG,←HNN.out,hld,←HF.out]
   have HA:=zh hA;have HG:=zh hG;have HGS:=zh hGs;have HGO:=zh hGo;have HFIN:=zh hfin
   clear hr0 hld hA hG hGs hGo hfin hm hne
   go_wp2_with (first | (refine wpList_load_all zr 245 _ zr _ zr _ Tryz.underlying245 zr _ _ HA.out (by rw [HGS.out];exact infoSt) ?_) | (refine wpList_store_all zr 245 _ _ zr zr _ _ zr zr (by rw [HGS.out];exact infoSt) _ _ HI.out.z (by rw [HGS.out,Zst_size]) HGO.out ?_))
   try simp only [Exit.inBlock,Exit.then]
   refine ret_row zr (w.heap.size+1) 245 G _ zr (HI.out.z.row G) Tryz.underlying245 zr (by rw [HGS.out];exact infoSt) ?_
   exact ⟨by rw [HFIN.out],below_row HI.out.b (by omega) G⟩
  ·obtain ⟨bb,oo,ha,hbb,hce⟩:=HCE.out (by intro e;rw [e] at hm;exact hne hm)
   subst ha
   have hpos:(0:Int) < (m:Int):=by omega
   have hp:=HOK.out.a
   obtain ⟨p,hpp⟩:∃ p,p=F.at':=⟨_,rfl⟩
   rw [←hpp] at hp ⊢
   have HP:=zh hpp;have HCC:=zh hce
   clear hpp hce hne
   obtain ⟨k,hk⟩:∃ k,k=min (64 - p) m:=⟨_,rfl⟩
   have hkm:k≤m:=by omega
   have hk0:0 < k:=by omega
   obtain ⟨c,hc⟩:∃ c,c=rest.take k:=⟨_,rfl⟩
   have hcl:c.length=k:=by rw [hc,List.length_take];omega
   obtain ⟨cs,hcs⟩:∃ cs,cs=u8s c:=⟨_,rfl⟩
   have hcsl:cs.length=k:=by rw [hcs,u8s_length,hcl]
   have hn:cs.length=Nat.min m (64 - p):=by rw [hcsl,hk];exact Nat.min_comm _ _
   have hsrc:∀ j v,cs[j]?=some v→wr.cell? ((⟨bb,oo,none⟩:Addr).add j)=some v:=fun j v hv=>by
    have hj:j < cs.length:=(List.getElem?_eq_some_iff.1 hv).1
    rw [Addr.add_mid,HI.out.b.cell (p:=⟨bb,oo+j,none⟩) hbb,HCC.out j (by rw [←HMM.out];omega),←hv,hcs,u8s_get c j (by omega),hc]
    simp [List.getD_eq_getElem?_getD,show j < k by omega]
   have h1:∀ v∈cs,v.oneCell'=true:=by rw [hcs];intro v hv;simp only [u8s,List.mem_map] at hv;obtain ⟨_,_,rfl⟩:=hv;rfl
   obtain ⟨E,hE⟩:∃ E,E=stRow F.H (lay F.T p c) N:=⟨_,rfl⟩
   have hsp:Mem.splice (stRow F.H F.T N) (8+p) cs=E:=by rw [hcs,hE];exact stRow_putT HOK.out.h HOK.out.t p c (by omega)
   have hfit:8+p+cs.length≤(stRow F.H F.T N).size:=by rw [stRow_size HOK.out.h HOK.out.t];omega
   obtain ⟨C0,hC0⟩:∃ C0,C0=stRow F.H F.T N:=⟨_,rfl⟩
   have hAc:=HI.out.c
   rw [←hC0] at hAc hsp hfit
   have hlt:(lay F.T p c).length=64:=by rw [lay_length _ _ _ (by rw [HOK.out.t];omega),HOK.out.t]
   have hnext:WRel s l N w (.slice (none:Option Addr) 0 0) (.int .i64 0) wr∨True:=Or.inr trivial
   clear hnext
   have HK:=zh hk;have HC':=zh hc;have HCL:=zh hcl;have HCS:=zh hcs;have HCSL:=zh hcsl;have HN':=zh hn;have HSRC:=zh hsrc;have H1:=zh h1;have HE:=zh hE;have HSP:=zh hsp;have HFIT:=zh hfit;have HC0:=zh hC0;have HAC:=zh hAc;have HLT:=zh hlt
   have hk64:p+k≤64:=by omega
   have hkm':¬ p+k=64→k=m:=by omega
   clear hk hc hcl hcs hcsl hn hsrc h1 hE hsp hfit hC0 hAc hlt hm
   by_cases hfull:p+k=64
   ·have hb:(((p:Int)+(k:Int)) == 64)=true:=by rw [beq_iff_eq];omega
    clear hkm'
    have HFULL:=zh hfull
    have hOK:=HOK.out
    have hE2:E.extract 0 (0+8)=(u32s F.H).toArray:=by rw [HE.out];exact stRow_H hOK.h
    have hE3:E.extract 8 (8+64)=(u8s (lay F.T p c)).toArray:=by rw [HE.out];exact stRow_T hOK.h HLT.out
    have hEs:E.size=73:=by rw [HE.out];exact stRow_size hOK.h HLT.out
    obtain ⟨J,hJ⟩:∃ J,J=addB F.H (lay F.T p c):=⟨_,rfl⟩
    have hJl:J.length=8:=by rw [hJ];exact addB_length _ _ hOK.h
    obtain ⟨G,hG⟩:∃ G,G=stRow J (lay F.T p c) N:=⟨_,rfl⟩
    obtain ⟨Q2,hQ2⟩:∃ Q2,Q2=stRow J zs64 N:=⟨_,rfl⟩
    have hGs:G.size=73:=by rw [hG];exact stRow_size hJl HLT.out
    have hput:Mem.splice E 0 (u32s J).toArray.toList=G:=by rw [HE.out,hG];exact stRow_putH hOK.h hJl
    have hput2:Mem.splice G 8 ZT.toList=Q2:=by
     have:=stRow_putT (n:=N) hJl HLT.out 0 zs64 (by simp [zs64])
     rw [hG,hQ2]
     have e:lay (lay F.T p c) 0 zs64=zs64:=by
      have h1:zs64.length=64:=by simp [zs64]
      show (lay F.T p c).take 0++zs64++(lay F.T p c).drop (0+zs64.length)=zs64
      rw [h1,List.drop_of_length_le (by rw [HLT.out];decide)];simp
     rw [e] at this
     exact this
    have hJs:(u32s J).toArray.size=8:=by simp [u32s,hJl]
    have hJo:=u32s_one J
    obtain ⟨JR,hJR⟩:∃ JR,JR=(u32s J).toArray:=⟨_,rfl⟩
    rw [←hJR] at hput hJs hJo
    have hadd:∀ wx,Tabs wx→Calls Tryz.prog 196 #[.agg (u32s F.H).toArray,.agg (u8s (lay F.T p c)).toArray] wx fun e w'=>e=.returned (.agg JR)∧Below wx.heap.size wx w':=fun wx hx=>by
     rw [hJR,hJ];exact addBlock_any F.H (lay F.T p c) hOK.h HLT.out wx hx
    obtain ⟨FR,hFR⟩:∃ FR,FR=(u32s F.H).toArray:=⟨_,rfl⟩
    obtain ⟨TR,hTR⟩:∃ TR,TR=(u8s (lay F.T p c)).toArray:=⟨_,rfl⟩
    rw [←hFR,←hTR] at hadd
    rw [←hFR] at hE2
    rw [←hTR] at hE3
    obtain ⟨Y,hY⟩:∃ Y,Y=ZT:=⟨_,rfl⟩
    rw [←hY] at hput2
    have hYs:Y.size=64:=by rw [hY];exact ZT_size
    have hYo:Y.all (·.oneCell')=true:=by rw [hY];exact u8s_one _
    have htab:∀ wx,Below w.heap.size w wx→Tabs wx:=fun wx hx=>HLT'.out.below hx (Nat.le_refl _)
    have HE2:=zh hE2;have HE3:=zh hE3;have HES:=zh hEs;have HJ:=zh hJ;have HG:=zh hG;have HGS:=zh hGs;have HPUT:=zh hput;have HPUT2:=zh hput2;have HJS:=zh hJs;have HJO:=zh hJo;have HADD:=zh hadd;have HYD:=zh hY;have HYS:=zh hYs;have HYO:=zh hYo;have HTAB:=zh htab;have HQ2:=zh hQ2;have HJL:=zh hJl
    clear hOK hE2 hE3 hEs hJ hG hGs hput hput2 hJs hJo hadd hYs hYo htab hQ2 hJl hJR hFR hTR hY hfull
    go_wp2_with (first | (refine wpList_slice_arr zr 243 _ _ zr 64 5 Tryz.underlying243 infoB _ 8 p zr zr hp ?_) | (refine wpList_copy_at zr _ _ 31 31 zr 5 Tryz.underlying31 infoB w.heap.size (8+p) (64 - p) (64 - p) ⟨bb,oo,none⟩ m cap zr zr cs HN'.out HSRC.out H1.out C0 _ HAC.out HFIT.out E HSP.out k HCSL.out ?_;intro w4 a4 s4 o4 b4;have A4:=zh a4;have S4:=zh s4;have B4:=zh b4;have O4:=zh o4;clear a4 s4 o4 b4) | (refine wpList_slice_low zr 31 _ _ zr 5 Tryz.underlying31 infoB (some ⟨bb,oo,none⟩) m cap k zr zr hkm ?_;intro a1 ha1;have HA1:=zh ha1;clear ha1) | (refine wpList_load_is zr 242 _ zr w.heap.size 0 8 zr _ Tryz.underlying242 zr info8 E _ A4.out (by rw [HES.out];decide) FR HE2.out ?_) | (refine wpList_load_is zr 243 _ zr w.heap.size 8 64 zr _ Tryz.underlying243 zr info64b E _ A4.out (by rw [HES.out];decide) TR HE3.out ?_) | (go_at_call 196;refine (HADD.out _ (HTAB.out _ (B4.out _ _ HI.out.b (Nat.le_refl _)))).mono ?_;rintro e w5 ⟨rfl,hb5⟩;have a5:=A4.out.below hb5 A4.out.lt;have A5:=zh a5;have HB5:=zh hb5;clear a5 hb5) | (refine wpList_store_is zr 242 _ _ zr zr w.heap.size 0 JR zr zr (by rw [HJS.out];exact info8) E _ A5.out (by rw [HES.out,HJS.out];decide) HJO.out G HPUT.out ?_;intro w6 a6 s6 o6 b6;have A6:=zh a6;have O6:=zh o6;have B6:=zh b6;clear a6 s6 o6 b6) | (refine wpList_store_is zr 243 _ _ zr zr w.heap.size 8 Y zr (by rw [HYD.out];rfl) (by rw [HYS.out];exact info64b) G _ A6.out (by rw [HGS.out,HYS.out];decide) HYO.out Q2 HPUT2.out ?_;intro w7 a7 s7 o7 b7;have A7:=zh a7;have O7:=zh o7;have B7:=zh b7;clear a7 s7 o7 b7))
    go_roundw
    case rel=>
     have e1:feeds F c=⟨addB F.H (lay F.T F.at' c),zs64,0⟩:=feeds_full c F HOK.out.t (by rw [←HP.out];exact hp) (by rw [←HP.out,HCL.out];exact HFULL.out)
     refine ⟨done++c,rest.drop k,?_,sl_drop HMM.out hkm hcap hbb HCC.out HA1.out,?_,?_⟩
     ·rw [HL.out,HC'.out,List.append_assoc,List.take_append_drop]
     ·rw [feeds_append,←HF.out,e1];rfl
     ·rw [feeds_append,←HF.out,e1]
      have a7:=A7.out
      rw [HQ2.out,HJ.out,HP.out] at a7
      have z4:=at_keep HI.out.z O4.out (show w.heap.size+1≠w.heap.size by omega)
      have z5:=z4.below HB5.out z4.lt
      have z6:=at_keep z5 O6.out (show w.heap.size+1≠w.heap.size by omega)
      have b4:=B4.out _ _ HI.out.b (Nat.le_refl _)
      have b5:=b4.trans (HB5.out.mono (Nat.le_of_lt A4.out.lt))
      exact ⟨a7,at_keep z6 O7.out (by omega),B7.out _ _ (B6.out _ _ b5 (Nat.le_refl _)) (Nat.le_refl _)⟩
    case measure=>simp [lenOf];omega
   ·have hb:(((p:Int)+(k:Int)) == 64)=false:=by rw [beq_eq_false_iff_ne];omega
    have hkm2:=zh (hkm' hfull)
    clear hkm'
    go_wp2_with (first | (refine wpList_slice_arr zr 243 _ _ zr 64 5 Tryz.underlying243 infoB _ 8 p zr zr hp ?_) | (refine wpList_copy_at zr _ _ 31 31 zr 5 Tryz.underlying31 infoB w.heap.size (8+p) (64 - p) (64 - p) ⟨bb,oo,none⟩ m cap zr zr cs HN'.out HSRC.out H1.out C0 _ HAC.out HFIT.out E HSP.out k HCSL.out ?_;intro w4 a4 s4 o4 b4;have A4:=zh a4;have S4:=zh s4;have B4:=zh b4;have O4:=zh o4;clear a4 s4 o4 b4) | (refine wpList_slice_low zr 31 _ _ zr 5 Tryz.underlying31 infoB (some ⟨bb,oo,none⟩) m cap k zr zr hkm ?_;intro a1 ha1;have HA1:=zh ha1;clear ha1))
    go_roundw
    case rel=>
     have e1:feeds F c=⟨F.H,lay F.T F.at' c,F.at'+c.length⟩:=feeds_part c F HOK.out.t (by rw [←HP.out,HCL.out];omega)
     refine ⟨done++c,rest.drop k,?_,sl_drop HMM.out hkm hcap hbb HCC.out HA1.out,?_,?_⟩
     ·rw [HL.out,HC'.out,List.append_assoc,List.take_append_drop]
     ·rw [feeds_append,←HF.out,e1,←HP.out,HCL.out];simp
     ·rw [feeds_append,←HF.out,e1]
      have a4:=A4.out
      rw [HE.out,HP.out] at a4
      exact ⟨a4,at_keep HI.out.z O4.out (by omega),B4.out _ _ HI.out.b (Nat.le_refl _)⟩
    case measure=>simp [lenOf];omega
def sameB (l m:Lb8):Bool:=l == m
theorem sameB_self (l:Lb8):sameB l l=true:=by simp [sameB]
theorem sameB_len (l m:Lb8) (h:l.length≠m.length):sameB l m=false:=by
 unfold sameB
 rw [Bool.eq_false_iff]
 intro e
 exact h (by rw [beq_iff_eq.1 e])
theorem B8_inj {x y:BitVec 8} (h:B8 x=B8 y):x=y:=by
 unfold B8 at h
 exact BitVec.eq_of_toNat_eq (by omega)
theorem sameB_at (l m:Lb8) (j:Nat) (h:l.getD j 0≠m.getD j 0):sameB l m=false:=by
 unfold sameB
 rw [Bool.eq_false_iff]
 intro e
 exact h (by rw [beq_iff_eq.1 e])
theorem take_next (l m:Lb8) (j:Nat) (h1:j < l.length) (h2:j < m.length) (h:l.take j=m.take j) (hx:l.getD j 0=m.getD j 0):l.take (j+1)=m.take (j+1):=by
 have e1:l.getD j 0=l[j]:=by simp [h1]
 have e2:m.getD j 0=m[j]:=by simp [h2]
 rw [List.take_succ_eq_append_getElem h1,List.take_succ_eq_append_getElem h2,h,←e1,←e2,hx]
end Sha
end Go.Proofs.YtlhnegbjoncieaaGreatDoor
namespace Go.Proofs.YtlhnegbjoncieaaGreatDoor
namespace Sha
open Go.RowKit Mem
def pieceA (a:Option Addr) (cap i:Nat):Option Addr:=if cap=i then a else a.map (·.add i)
theorem sl_piece {w:World} {a:Option Addr} {cap i j:Nat} {l:Lb8} (h:Sl w (.slice a l.length cap) l) (hi:i≤j) (hj:j≤l.length):Sl w (.slice (pieceA a cap i) (j - i) (cap - i)) ((l.drop i).take (j - i)):=by
 obtain ⟨a',cap',e,hcap,hr⟩:=h
 injection e with e1 _ e3
 subst e1;subst e3
 have hl:((l.drop i).take (j - i)).length=j - i:=by rw [List.length_take,List.length_drop];omega
 refine ⟨_,_,by rw [hl],by rw [hl];omega,fun hne=>?_⟩
 have hij:i < j:=by
  rcases Nat.lt_or_ge i j with h | h
  ·exact h
  ·rw [show j - i=0 by omega,List.take_zero] at hne
   exact absurd rfl hne
 obtain ⟨bb,oo,rfl,hlt,hc⟩:=hr (by intro h0;rw [h0] at hj;simp at hj;omega)
 refine ⟨bb,oo+i,by rw [pieceA,if_neg (by omega)];simp [Addr.add_mid],hlt,fun k hk=>?_⟩
 rw [hl] at hk
 rw [Nat.add_assoc,hc (i+k) (by omega)]
 simp [List.getD_eq_getElem?_getD,hk]
section
variable {ops:Array Oper} {rest:List Oper} {o:Oper} {a:Act} {w:World} {Q:Exit→Act→World→Prop}
theorem slice_run (ty:TypeId) (e:TypeId) (hu:Tryz.prog.underlying ty=some (.slice e)) (hs:(Tryz.prog.info? e).map (·.size)=some 1) (a0:Option Addr) (len cap i j:Nat) (hij:i≤j) (hj:j≤len) (hc:len≤cap) (w:World) :
 (Instr.sliceAt ty (.slice a0 len cap) (some (.int .i64 (i:Int))) (some (.int .i64 (j:Int))) none).run Tryz.prog w=.ok (.slice (pieceA a0 cap i) (j - i) (cap - i)) w ∧
 (Instr.sliceAt ty (.slice a0 len cap) none (some (.int .i64 (j:Int))) none).run Tryz.prog w=.ok (.slice (pieceA a0 cap 0) j cap) w ∧
 (Instr.sliceAt ty (.slice a0 len cap) (some (.int .i64 (i:Int))) none none).run Tryz.prog w=.ok (.slice (pieceA a0 cap i) (len - i) (cap - i)) w:=by
 cases hq:Tryz.prog.info? e with
 | none=>simp [hq] at hs
 | some q=>
  have hs1:q.size=1:=by simpa [hq] using hs
  have hjc:j≤cap:=by omega
  have hil:i≤len:=by omega
  refine ⟨?_,?_,?_⟩ <;> simp [Instr.sliceAt,Instr.slice,Instr.sliceBounds,Instr.sliceBound,asIntOf,Sem.run_bind,run_underlying hu,sizeOf,typeInfo,hq,hs1,hij,hjc,hil,pieceA]
theorem wpList_piece_to (hw:Region.wanted o (yielded ops a.tmps)=true) (ty:TypeId) (x j:Operand) (ho:o.op=.slice ty x none (some j) none) (hu:Tryz.prog.underlying ty=some (.slice 5)) (a0:Option Addr) (len cap m:Nat) (l:Lb8) (hl:l.length=len)
 (hx:a.eval x=.slice a0 len cap) (hv:Sl w (.slice a0 len cap) l) (hj:a.eval j=.int .i64 (m:Int)) (hm:m≤len)
 (h:Sl w (.slice (pieceA a0 cap 0) m cap) (l.take m)→wpList Tryz.prog ops Q rest (a.put o.dst (.slice (pieceA a0 cap 0) m cap)) w):wpList Tryz.prog ops Q (o::rest) a w:=by
 subst hl
 have hcap:l.length≤cap:=by obtain ⟨_,_,e,hc,_⟩:=hv;injection e with _ _ e3;omega
 have hr:=(slice_run ty 5 hu infoB a0 l.length cap 0 m (Nat.zero_le _) hm hcap w).2.1
 unfold wpList
 rw [if_pos hw]
 left
 unfold Oper.wp
 have:(execOp a.eval o).run Tryz.prog w=.ok (.value (.slice (pieceA a0 cap 0) m cap)) w:=by
  unfold execOp
  simp only [ho,hx,hj,Option.map_some,Option.map_none,Sem.run_bind,hr,Result.andThen_ok,Sem.run_pure]
 rw [this]
 have h1:=sl_piece hv (Nat.zero_le m) hm
 rw [Nat.sub_zero,Nat.sub_zero,List.drop_zero] at h1
 exact h h1
theorem wpList_piece_from (hw:Region.wanted o (yielded ops a.tmps)=true) (ty:TypeId) (x i:Operand) (ho:o.op=.slice ty x (some i) none none) (hu:Tryz.prog.underlying ty=some (.slice 5)) (a0:Option Addr) (len cap k:Nat) (l:Lb8) (hl:l.length=len)
 (hx:a.eval x=.slice a0 len cap) (hv:Sl w (.slice a0 len cap) l) (hi:a.eval i=.int .i64 (k:Int)) (hk:k≤len)
 (h:Sl w (.slice (pieceA a0 cap k) (len - k) (cap - k)) (l.drop k)→wpList Tryz.prog ops Q rest (a.put o.dst (.slice (pieceA a0 cap k) (len - k) (cap - k))) w):wpList Tryz.prog ops Q (o::rest) a w:=by
 subst hl
 have hcap:l.length≤cap:=by obtain ⟨_,_,e,hc,_⟩:=hv;injection e with _ _ e3;omega
 have hr:=(slice_run ty 5 hu infoB a0 l.length cap k l.length hk (Nat.le_refl _) hcap w).2.2
 unfold wpList
 rw [if_pos hw]
 left
 unfold Oper.wp
 have:(execOp a.eval o).run Tryz.prog w=.ok (.value (.slice (pieceA a0 cap k) (l.length - k) (cap - k))) w:=by
  unfold execOp
  simp only [ho,hx,hi,Option.map_some,Option.map_none,Sem.run_bind,hr,Result.andThen_ok,Sem.run_pure]
 rw [this]
 have h1:=sl_piece hv hk (Nat.le_refl _)
 rw [List.take_of_length_le (by rw [List.length_drop];omega)] at h1
 exact h h1
end
end Sha
end Go.Proofs.YtlhnegbjoncieaaGreatDoor
namespace Go.Proofs.YtlhnegbjoncieaaGreatDoor
namespace Sha
open Go.ChangeShapes Go.WideShapes Go.ChangeAt Go.WideMaps Go.WideElems Go.RowKit Mem
theorem own:ownKnob Tryz.prog.godebug=none:=by kernel_rfl
theorem laidOut:laidOutB Tryz.prog=true:=by kernel_rfl
theorem trodAll_below {H:Type} {enc:TypeId × Value→H} {P:Program} (hl:laidOutB P=true) {W W':World} (hb:Below W.heap.size W W') :
 ∀ {ts:List TypeId} {vs:List Value} {ds:List (DataW H)} {ps:List MemPlace},ts.all (fun t=>P.readableRec t && decide (t < P.types.size))=true→DataW.TrodAll enc P W 0 (fun _=>true) true ts vs ds ps →
  DataW.TrodAll enc P W' 0 (fun b=>decide (b < W.heap.size)) true ts vs ds ps
 | [],[],[],_,_,h=>h
 | t::ts,v::vs,d::ds,ps,hr,h=>by
  have hlt:=DataW.TrodAll.lt h
  obtain ⟨p,q,h1,h2,e⟩:=h
  simp only [List.all_cons,Bool.and_eq_true,decide_eq_true_eq] at hr
  exact ⟨p,q,Below.trod hl hr.1.1 hr.1.2 h1 hb (fun x hx=>hlt x (by rw [e];simp [hx])),trodAll_below hl hb hr.2 h2,e⟩
 | [],[],_::_,_,_,h=>h.elim
 | [],_::_,_,_,_,h=>by cases ‹List (DataW H)› <;> exact h.elim
 | _::_,[],_,_,_,h=>by cases ‹List (DataW H)› <;> exact h.elim
 | _::_,_::_,[],_,_,h=>h.elim
theorem trodAll_len {H:Type} {enc:TypeId × Value→H} {P:Program} {w:World} {base:Nat} {sp:Nat→Bool} {held:Bool}:∀ {ts:List TypeId} {vs:List Value} {ds:List (DataW H)} {ps:List MemPlace},DataW.TrodAll enc P w base sp held ts vs ds ps→ds.length=ts.length
 | [],[],[],_,_=>rfl
 | _::_,_::_,_::_,_,h=>by
  obtain ⟨_,_,_,h2,_⟩:=h
  simp [trodAll_len h2]
 | [],[],_::_,_,h=>h.elim
 | [],_::_,ds,_,h=>by cases ds <;> exact h.elim
 | _::_,[],ds,_,h=>by cases ds <;> exact h.elim
 | _::_,_::_,[],_,h=>h.elim
def LawTrue (f:FuncId) (args:Array Value) (W:World):Prop:=Calls Tryz.prog f args W fun e w'=>e=.returned (.bool true)∧Below W.heap.size W w'
theorem law_lift_of (laidL:List (String × DataW Unit)) (T:World→Prop) (tabsT:∀ {W:World},laidMetH Tryz.prog laidL W→T W) {f:FuncId} {fn:Func} {s:ChangeSpec} (hvars:s.vars=[]) (hres:fn.resultTypes=#[4]) (hread:fn.params.toList.all (fun t=>Tryz.prog.readableRec t && decide (t < Tryz.prog.types.size))=true)
 (hs:∀ (H:Type) (ds:List (DataW H)),ds.length=fn.params.size→s.fn H ds={ results:=[.lit (.bool true)],args:=ds }) (noInit:Tryz.checked.prog.inits.idxOf? f=none) (hfn:Tryz.prog.funcs[f]?=some fn)
 (os:Os) (started:os.Started) (H:Type) (enc:TypeId × Value→H) (wargs:Array Value) (fuel:Nat)
 (hok:Input.okWideB Tryz.prog ((World.doorLaid Tryz.prog 4000 os).forCall (fun _ _=>0) ⟨#[],wargs,[]⟩) f ⟨#[],wargs,[]⟩=true)
 (hpre:s.preB enc Tryz.prog fn [] false ((World.doorLaid Tryz.prog 4000 os).forCall (fun _ _=>0) ⟨#[],wargs,[]⟩).memory wargs fuel=true)
 (hsz:s.sizedB enc Tryz.prog fn false ((World.doorLaid Tryz.prog 4000 os).forCall (fun _ _=>0) ⟨#[],wargs,[]⟩).memory wargs fuel=true)
 (hsh:((World.doorLaid Tryz.prog 4000 os).forCall (fun _ _=>0) ⟨#[],wargs,[]⟩).Shaped Tryz.prog)
 (hdoor:laidMetH Tryz.prog laidL ((World.doorLaid Tryz.prog 4000 os).forCall (fun _ _=>0) ⟨#[],wargs,[]⟩).memory)
 (hos:(World.doorLaid Tryz.prog 4000 os).os=os)
 (contract:∀ (W:World) (base:Nat) (args:Array Value) (ds:List (DataW H)) (p:List MemPlace),(∀ (j:Nat) t v,fn.params[j]?=some t→args[j]?=some v→Value.okWide Tryz.prog W .any base t v) →
  DataW.TrodAll enc Tryz.prog W 0 (fun _=>true) true fn.params.toList args.toList ds p→T W→LawTrue f args W) :
 ReturnsInHanded {} Tryz.checked os f .any (fun w args=>(s.pre enc Tryz.prog fn [] false w args∧laidMetH Tryz.prog laidL w)∧sizedMet enc Tryz.prog fn (OpenSpec.ofChange s) false w args) (s.post enc Tryz.prog fn false true false false):=by
 refine returnsInHanded_of_change_and (C:=Tryz.checked) (X:=fun w _=>laidMetH Tryz.prog laidL w) (fun _ _ _ hh h=>h.of_heap hh) own started noInit hfn
  (ChangeSpec.witness_shaped (enc:=enc) (C:=Tryz.checked) (os:=os) (X:=fun w _=>laidMetH Tryz.prog laidL w) false (World.doorLaid Tryz.prog 4000 os) wargs fuel hos hsh hok hpre hsz hdoor) ?_
 intro W base args ds gs before hval hW _ _ hL _
 have hW':=hW
 obtain ⟨p,q,hA,hV,rfl,_,_⟩:=hW
 rw [hvars] at hV
 obtain ⟨rfl,rfl⟩:=trodVars_none hV
 refine (contract W base args ds p hval hA (tabsT hL)).mono fun e W' ⟨he,hb⟩=>?_
 subst he
 have hsd:=hs H ds (by rw [trodAll_len hA];simp)
 refine ⟨_,rfl,ds,[],p++[],[],p,[],hW',?_,?_,?_,hb.frame _,fun h=>by cases h⟩
 ·rw [List.append_nil,hsd,hres];exact trodAll_cons_mk (shut_bool Tryz.underlying4 _) trodAll_mk0
 ·rw [List.append_nil,hsd];exact trodAll_below laidOut hb hread hA
 ·rw [List.append_nil,hsd,hvars];rfl
end Sha
end Go.Proofs.YtlhnegbjoncieaaGreatDoor
namespace Go.Proofs.YtlhnegbjoncieaaGreatDoor
namespace Sha
open Go.ChangeShapes Go.WideShapes Go.ChangeAt Go.WideMaps Go.WideElems Go.RowKit Mem
set_option maxRecDepth 100000
theorem byte_of {n:Int} (h:(Lit.int .u8 n).wf=true):∃ x:BitVec 8,n=(x.toNat:Int):=by
 have h2:=h
 simp [Lit.wf,IntKind.min,IntKind.max,IntKind.signed,IntKind.bits] at h2
 refine ⟨BitVec.ofNat 8 n.toNat,?_⟩
 rw [BitVec.toNat_ofNat]
 omega
theorem bytes_of:∀ (zs:List Int),(∀ n∈zs,(Lit.int .u8 n).wf=true)→∃ l:Lb8,zs=l.map fun x=>(x.toNat:Int)
 | [],_=>⟨[],rfl⟩
 | z::zs,h=>by
  obtain ⟨x,hx⟩:=byte_of (h z (by simp))
  obtain ⟨l,hl⟩:=bytes_of zs (fun n hn=>h n (by simp [hn]))
  exact ⟨x::l,by simp [hx,hl]⟩
theorem cB:Tryz.prog.cellsOf 5=1:=by kernel_rfl
theorem cS:Tryz.prog.cellsOf 31=1:=by kernel_rfl
theorem sl_of {w:World} {a:Addr} {len:Nat} (cap:Nat) {zs:List Int} (hl:len≤cap) (hz:len≤zs.length) (hcell:∀ i,i < zs.length→w.cell? (a.add i)=some (.int .u8 (zs.getD i 0))) (hwz:∀ n∈zs,(Lit.int .u8 n).wf=true) :
 ∃ l,Sl w (.slice (some a) len cap) l∧l.length=len:=by
 obtain ⟨l,rfl⟩:=bytes_of zs hwz
 have hz':len≤l.length:=by simpa using hz
 have hlen:(l.take len).length=len:=by simp;omega
 refine ⟨l.take len,⟨some a,cap,by rw [hlen],by rw [hlen];exact hl,fun hne=>?_⟩,hlen⟩
 have hp:0 < len:=by
  rcases Nat.eq_zero_or_pos len with h | h
  ·subst h;simp at hne
  ·exact h
 have h0:=hcell 0 (by simp;omega)
 obtain ⟨b,o,ln⟩:=a
 have hsp:ln=none:=by simpa [Addr.add] using World.cell?_spot h0
 subst hsp
 refine ⟨b,o,rfl,?_,fun i hi=>?_⟩
 ·rw [Addr.add_mid] at h0
  exact block_lt_of_cell h0
 ·rw [hlen] at hi
  have h1:=hcell i (by simp;omega)
  rw [Addr.add_mid] at h1
  rw [h1]
  simp [List.getD_eq_getElem?_getD,hi,show i < l.length by omega]
theorem sl_nil (w:World) (cap:Nat):Sl w (.slice none 0 cap) []:=⟨none,cap,rfl,by simp,fun h=>absurd rfl h⟩
theorem open_sl_in {H:Type} {enc:TypeId × Value→H} {W:World} {n:Nat} {v:Value} {y:DataW H × List MemPlace} (hf:DataW.trod enc Tryz.prog W 0 (fun _=>true) true n 31 [v]=some y) :
 ∃ l,Sl W v l∧l.length≤9223372036854775807:=by
 rcases open_ints Tryz.underlying31 Tryz.underlying5 cB hf with ⟨hcs,_⟩ | ⟨a,len',cap',zs,hcs,_,hl,hm,hz,_,hcell,hwz⟩
 ·simp at hcs
  subst hcs
  exact ⟨[],sl_nil _ _,by simp⟩
 ·simp at hcs
  subst hcs
  simp only [if_true] at hz
  obtain ⟨l,h1,h2⟩:=sl_of cap' hl (by rw [hz];exact hl) hcell hwz
  refine ⟨l,h1,?_⟩
  unfold maxLen at hm
  omega
theorem okWide_array {P:Program} {w:World} {r:Reach} {base:Nat} {t e:TypeId} {v:Value} {n:Nat} (ht:P.underlying t=some (.array n e)) (h:Value.okWide P w r base t v):∃ cs,v=.agg cs∧cs.size=P.cellsOf t:=by
 simp only [Value.okWide,ht] at h
 obtain ⟨cs,h1,h2,_⟩:=h
 exact ⟨cs,h1,h2⟩
theorem open_bytes_in {H:Type} {enc:TypeId × Value→H} {W:World} {m n:Nat} {t:TypeId} {cs:List Value} {y:DataW H × List MemPlace} (hu:Tryz.prog.underlying t=some (.array n 5)) (hc:Tryz.prog.cellsOf t=n)
 (hf:DataW.trod enc Tryz.prog W 0 (fun _=>true) true m t cs=some y):∃ l:Lb8,cs=u8s l∧l.length=n:=by
 obtain ⟨xs,m',_,_,hl,hx,he⟩:=DataW.trod_array hu hf
 rw [hc] at hl
 have each:∀ i,i < n→∃ b:BitVec 8,cs[i]?=some (.int .u8 (b.toNat:Int)):=fun i hi=>by
  have h:=he i hi
  rw [cB,Nat.mul_one,List.getElem?_eq_getElem (by omega)] at h
  obtain ⟨k,hk,_,hw⟩:=DataW.trod_int Tryz.underlying5 h
  obtain ⟨b,rfl⟩:=byte_of hw
  refine ⟨b,?_⟩
  have h0:((cs.drop i).take 1)[0]?=some (.int .u8 (b.toNat:Int)):=by rw [hk];rfl
  simpa [List.getElem?_take,List.getElem?_drop] using h0
 obtain ⟨f,hff⟩:=Deep.choose_lt each
 refine ⟨(List.range n).map f,?_,by simp⟩
 apply List.ext_getElem?
 intro i
 by_cases hi:i < n
 ·rw [hff i hi];simp [u8s,hi]
 ·rw [List.getElem?_eq_none (by omega),List.getElem?_eq_none (by simp [u8s];omega)]
theorem open_bytes {H:Type} {enc:TypeId × Value→H} {W:World} {base n:Nat} {t:TypeId} {v:Value} {d:DataW H} {p:List MemPlace} (hu:Tryz.prog.underlying t=some (.array n 5)) (hc:Tryz.prog.cellsOf t=n)
 (hval:Value.okWide Tryz.prog W .any base t v) (h:DataW.Trod enc Tryz.prog W 0 (fun _=>true) true t v d p):∃ l:Lb8,v=.agg (u8s l).toArray∧l.length=n:=by
 obtain ⟨cs,rfl,_⟩:=okWide_array hu hval
 obtain ⟨fuel,hf⟩:=h
 have e1:(Value.agg cs).cells.toList=cs.toList:=rfl
 rw [e1] at hf
 obtain ⟨l,hl,ln⟩:=open_bytes_in hu hc hf
 exact ⟨l,by rw [←hl],ln⟩
theorem cells_of_rows {H:Type} {enc:TypeId × Value→H} {P:Program} {w:World} {base:Nat} {sp:Nat→Bool} {held:Bool} {fuel:Nat} {t e1 e:TypeId} {n m:Nat} {k:IntKind} {cs:List Value} {rows:List (List Int)} {p:List MemPlace}
 (ht:P.underlying t=some (.array n e1)) (h1:P.underlying e1=some (.array m e)) (he:P.underlying e=some (.int k)) (hce:P.cellsOf e=1) (hc1:P.cellsOf e1=m) (hct:P.cellsOf t=n*m) (_hm:0 < m)
 (h:DataW.trod enc P w base sp held fuel t cs=some (.agg (rows.map (Lib.tabData k)),p)):cs.length=n*m∧∀ i,i < n→(cs.drop (i*m)).take m=(rows.getD i []).map fun z=>Value.int k z:=by
 obtain ⟨xs,m',_,hx,hl,hxl,hh⟩:=DataW.trod_array ht h
 refine ⟨by rw [hl,hct],fun i hi=>?_⟩
 have hi2:=hh i hi
 rw [hc1,List.getElem?_eq_getElem (by omega)] at hi2
 have hr:rows.map (Lib.tabData k)=xs.map (·.1):=by
  have:=congrArg Prod.fst hx
  simpa using this
 have hlen:rows.length=n:=by have:=congrArg List.length hr;simpa [hxl] using this
 have hrow:(xs[i]'(by omega)).1=(Lib.tabData k (rows.getD i []):DataW H):=by
  have e2:=congrArg (fun l=>l[i]?) hr
  simp only [List.getElem?_map,List.getElem?_eq_getElem (show i < xs.length by omega),List.getElem?_eq_getElem (show i < rows.length by omega),Option.map_some,Option.some.injEq] at e2
  rw [←e2]
  simp [List.getD_eq_getElem?_getD,hlen,hi]
 obtain ⟨x1,x2⟩:∃ a b,xs[i]'(by omega)=(a,b):=⟨_,_,rfl⟩
 rw [show xs[i]'(by omega)=((xs[i]'(by omega)).1,(xs[i]'(by omega)).2) from rfl,hrow] at hi2
 exact Lib.cells_of_tab h1 he hce hc1 hi2
end Sha
end Go.Proofs.YtlhnegbjoncieaaGreatDoor
