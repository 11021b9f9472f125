/- My own texts, merged. -/
import Derived.Test.YtlhnegbjoncieaaGreatDoorBL00
import Derived.Maps.AppendAt
import Derived.OwnWalk
import Derived.Test.YtlhnegbjoncieaaGreatDoorChecked
import Derived.Test.YtlhnegbjoncieaaGreatDoorBL01
import Derived.WalkSpells
import Derived.WalkLawsBesides
import Derived.Lib.Hide
import Derived.Deep.QuietTactic
import Derived.BigQuiet
import Derived.Deep.MidRow
import Derived.Deep.DeepFit
import Derived.Test.YtlhnegbjoncieaaGreatDoorBL02
namespace Go.Proofs.YtlhnegbjoncieaaGreatDoor
namespace Mem
open Go.RowKit
def OwnV (w:World) (B:Nat) (e:TypeId) (v:Value) (xs:List Value):Prop:=w.ownsRow B e 1 v xs.length xs
section
variable {P:Program} {w w':World} {B:Nat} {e:TypeId} {v:Value} {xs:List Value}
theorem OwnV.nil (w:World) (B:Nat) (e:TypeId):OwnV w B e (.slice none 0 0) []:=World.ownsRow_nil w B e 1
theorem OwnV.open (h:OwnV w B e v xs):∃ a cap,v=.slice a xs.length cap∧xs.length≤cap∧(xs≠[]→∃ g,a=some ⟨g,0,none⟩∧B≤g∧g < w.heap.size∧∀ i u,xs[i]?=some u→w.cell? ⟨g,i,none⟩=some u):=by
 obtain ⟨_,h | ⟨g,cap,cur,rfl,hg,hh,hn,hc,hs,ht⟩⟩:=h
 ·obtain ⟨rfl,h0⟩:=h
  exact ⟨none,0,by rw [h0],by omega,fun hne=>absurd (List.eq_nil_of_length_eq_zero h0) hne⟩
 ·refine ⟨_,cap,rfl,hn,fun _=>⟨g,rfl,hg,(Array.getElem?_eq_some_iff.1 hh).1,fun i u hu=>?_⟩⟩
  have hi:=(List.getElem?_eq_some_iff.1 hu).1
  rw [cell_of_row w g i cur _ (0,0) hh]
  have h1:(cur.toList.take (xs.length*1))[i]?=xs[i]?:=by rw [ht]
  rw [List.getElem?_take,if_pos (by omega)] at h1
  rw [←Array.getElem?_toList,h1,hu]
theorem OwnV.keep (h:OwnV w B e v xs) (hk:∀ g,v.ownBlock=some g→w'.heap[g]?=w.heap[g]?):OwnV w' B e v xs:=by
 refine ⟨h.1,?_⟩
 rcases h.2 with hn | ⟨g,cap,cur,rfl,hg,hh,hr⟩
 ·exact .inl hn
 ·exact .inr ⟨g,cap,cur,rfl,hg,by rw [hk g rfl];exact hh,hr⟩
theorem OwnV.lt (h:OwnV w B e v xs):∀ k,v.ownBlock=some k→B≤k∧k < w.heap.size:=World.ownsRow.lt h
theorem OwnV.below (h:OwnV w B e v xs) (hb:Below w.heap.size w w'):OwnV w' B e v xs:=h.keep fun g hg=>hb.block g (h.lt g hg).2
theorem OwnV.ne_own {B':Nat} {e':TypeId} {v':Value} {ys:List Value} (h:OwnV w B e v xs) (k:OwnV w B' e' v' ys) (he:e≠e'):∀ g,v.ownBlock=some g→v'.ownBlock≠some g:=by
 intro g hg hg'
 rcases h.2 with ⟨rfl,_⟩ | ⟨b,cap,cur,rfl,_,hh,_⟩
 ·simp [Value.ownBlock] at hg
 rcases k.2 with ⟨rfl,_⟩ | ⟨b',cap',cur',rfl,_,hh',_⟩
 ·simp [Value.ownBlock] at hg'
 have e1:b=g:=by simpa [Value.ownBlock] using hg
 have e2:b'=g:=by simpa [Value.ownBlock] using hg'
 subst e1;subst e2
 rw [hh] at hh'
 injection hh' with hh'
 injection hh' with _ h2
 exact he h2
def elemB (P:Program) (t e:TypeId) (z:Value) (bytes:Nat):Prop:=P.underlying t=some (.slice e)∧(P.info? e).map (fun i=>(i.zero,i.size,i.bytes))=some (some z,1,bytes)
theorem run_append_lit {t ty:TypeId} {z x:Value} {bytes:Nat} (he:elemB P t e z bytes) (hz1:z.cells.size=1) (hown:OwnV w B e v xs) (h1:x.oneCell'=true) (hlen:(xs.length+1)*bytes≤140737488355328) (hl2:xs.length < 140737488355328) (hB:B≤w.heap.size) :
 ∃ v' w',(Builtin.append_ #[t,t] ty #[v,.slice (some ⟨w.heap.size,0,none⟩) 1 1]).run P (w.alloc (.cells #[x] e))=.ok v' w'∧OwnV w' B e v' (xs++[x])∧(∀ k,k < w.heap.size→v.ownBlock≠some k→w'.heap[k]?=w.heap[k]?)∧Below B w w'∧(v'.ownBlock=v.ownBlock∨∃ g,v'.ownBlock=some g∧w.heap.size≤g):=by
 obtain ⟨i0,hi,hz0,hs,hb⟩:=info_parts he.2
 have hal:Below w.heap.size w (w.alloc (.cells #[x] e)):=(Below.refl _ _).alloc (Nat.le_refl _) _
 have ho2:=hown.below hal
 have hml:140737488355328≤maxLen:=by simp [maxLen]
 obtain ⟨v',w',hrun,h2,h3,_,h5⟩:=run_append_own_at (P:=P) (w.alloc (.cells #[x] e)) B t ty e i0 z 1 bytes he.1 hi hz0 hs hb hz1 (by decide) v xs.length xs ho2 ⟨w.heap.size,0,none⟩ 1 1 [x] rfl (fun j u hu=>by
  have hj:j=0:=by
   have:=(List.getElem?_eq_some_iff.1 hu).1
   simpa using this
  subst hj
  have hx:x=u:=by simpa using hu
  rw [Addr.add_mid,(at_new w #[x] e).cell,←hx];rfl) (fun u hu=>by
  have hx:u=x:=by simpa using hu
  rw [hx];exact h1) (by omega) hlen (Nat.le_trans hB hal.size)
 refine ⟨v',w',hrun,?_,fun k hk hne=>?_,?_,?_⟩
 ·unfold OwnV
  rw [List.length_append]
  exact h2
 ·rw [h3.block k (Nat.lt_of_lt_of_le hk hal.size) (fun e=>hne e.symm),hal.block k hk]
 ·exact (hal.mono hB).grown h3 (Nat.le_trans hB hal.size) (fun g hg=>(hown.lt g hg).1)
 ·rcases h5 with h5 | h5
  ·exact .inl h5
  ·exact .inr ⟨_,h5,hal.size⟩
theorem cell_alloc {w:World} {p:Addr} {o:Obj} (h:p.block < w.heap.size):(w.alloc o).cell? p=w.cell? p:=
 World.cell?_of_block (by first | exact heap_alloc_old _ _ h | exact heap_alloc_old _ _ _ h)
theorem wpList_slice_mid {ops:Array Oper} {rest:List Oper} {op:Oper} {a:Act} {Q:Exit→Act→World→Prop} (hgd:op.guard=none) (ty:TypeId) (x i j:Operand) (ho:op.op=.slice ty x (some i) (some j) none)
 (elem:TypeId) (hu:P.underlying ty=some (.slice elem)) (hs:(P.info? elem).map (·.size)=some 1) (b o len cap k l:Nat) (hx:a.eval x=.slice (some ⟨b,o,none⟩) len cap) (hi:a.eval i=.int .i64 (k:Int)) (hj:a.eval j=.int .i64 (l:Int)) (hk:k≤l) (hl:l≤cap) (hkc:k < cap)
 (h:wpList P ops Q rest (a.put op.dst (.slice (some ⟨b,o+k,none⟩) (l - k) (cap - k))) w):wpList P ops Q (op::rest) a w:=by
 refine wpList_plain hgd fun K hK=>?_
 cases hq:P.info? elem with
 | none=>simp [hq] at hs
 | some q=>
  have hs1:q.size=1:=by simpa [hq] using hs
  have hne:¬ cap=k:=by omega
  have hkl:(k:Int)≤(l:Int):=by omega
  have hlc:(l:Int)≤(cap:Int):=by omega
  have hrun:(Instr.slice ty (.slice (some ⟨b,o,none⟩) len cap) (some (.int .i64 (k:Int))) (some (.int .i64 (l:Int))) none).run P w=.ok (.slice (some ⟨b,o+k,none⟩) (l - k) (cap - k)) w:=by
   simp [Instr.slice,Instr.sliceBounds,Instr.sliceBound,asIntOf,Sem.run_bind,run_underlying hu,sizeOf,typeInfo,hq,hs1,hk,hl,hne,Addr.add_mid]
  have hat:(Instr.sliceAt ty (.slice (some ⟨b,o,none⟩) len cap) (some (.int .i64 (k:Int))) (some (.int .i64 (l:Int))) none).run P w=.ok (.slice (some ⟨b,o+k,none⟩) (l - k) (cap - k)) w:=by
   simp [Instr.sliceAt,Sem.run_bind,run_underlying hu,hrun]
  unfold Oper.wp execOp
  simp only [ho,hx,hi,hj,Option.map_some,Option.map_none,Sem.run_bind,hat,Result.andThen_ok,Sem.run_pure]
  exact hK _ _ h
def Rd (w:World) (v:Value) (xs:List Value):Prop:=∃ a cap,v=.slice a xs.length cap∧(xs≠[]→∃ p,a=some p∧∀ i u,xs[i]?=some u→w.cell? (p.add i)=some u)
theorem OwnV.rd (h:OwnV w B e v xs):Rd w v xs:=by
 obtain ⟨a,cap,rfl,_,hr⟩:=h.open
 exact ⟨a,cap,rfl,fun hne=>by
  obtain ⟨g,rfl,_,_,hc⟩:=hr hne
  exact ⟨_,rfl,fun i u hu=>by rw [Addr.add_mid,Nat.zero_add];exact hc i u hu⟩⟩
theorem wpList_append_lit {ops:Array Oper} {rest:List Oper} {o:Oper} {a:Act} {Q:Exit→Act→World→Prop} (hgd:o.guard=none) (s x:Operand) (t:TypeId) (ho:o.op=.call { callee:=.builtin .append,args:=#[s,x],argTypes:=#[t,t] })
 (u z:Value) (bytes:Nat) (he:elemB P t e z bytes) (hz1:z.cells.size=1) (hs:a.eval s=v) (hown:OwnV w B e v xs) (hx:a.eval x=.slice (some ⟨w.heap.size,0,none⟩) 1 1) (h1:u.oneCell'=true) (hlen:(xs.length+1)*bytes≤140737488355328) (hl2:xs.length < 140737488355328) (hB:B≤w.heap.size)
 (h:∀ v' w',OwnV w' B e v' (xs++[u])→(∀ k,k < w.heap.size→v.ownBlock≠some k→w'.heap[k]?=w.heap[k]?)→Below B w w'→(v'.ownBlock=v.ownBlock∨∃ g,v'.ownBlock=some g∧w.heap.size≤g)→wpList P ops Q rest (a.put o.dst v') w') :
 wpList P ops Q (o::rest) a (w.alloc (.cells #[u] e)):=by
 refine wpList_plain hgd fun K hK=>?_
 obtain ⟨v',w',hrun,h2,h3,h4,h5⟩:=run_append_lit (P:=P) (ty:=o.type) he hz1 hown h1 hlen hl2 hB
 unfold Oper.wp execOp
 simp only [ho,resolve,invoke,builtin,Sem.run_bind,Sem.run_pure,Result.andThen_ok,List.map_toArray,List.map_cons,List.map_nil,hs,hx,hrun]
 exact hK _ _ (h v' w' h2 h3 h4 h5)
end
end Mem
end Go.Proofs.YtlhnegbjoncieaaGreatDoor
namespace Go.Proofs.YtlhnegbjoncieaaGreatDoor
namespace Mem
open Go.RowKit
section
variable {P:Program} {ops:Array Oper} {K:World→Prop} {Q:Act→Prop} {a:Act} {op:Oper}
theorem wpList_store_one {rest:List Oper} {Q:Exit→Act→World→Prop} {w:World} (hgd:op.guard=none) (ty:TypeId) (x y:Operand) (ho:op.op=.store ty x y) (hdst:op.dst=none)
 (b i:Nat) (v:Value) (hx:a.eval x=.pointer (some ⟨b,i,none⟩)) (hy:a.eval y=v) (h1:v.oneCell'=true) (hs:(P.info? ty).map (·.size)=some 1)
 (C:Array Value) (t:TypeId) (hC:At w b C t) (hi:i < C.size)
 (h:∀ w',At w' b (C.setIfInBounds i v) t→(∀ k,k≠b→w'.heap[k]?=w.heap[k]?)→(∀ B a,Below B a w→B≤b→Below B a w')→wpList P ops Q rest a w'):wpList P ops Q (op::rest) a w:=by
 refine wpList_plain hgd fun K hK=>?_
 have hc:w.cell? ⟨b,i,none⟩=some C[i]:=by rw [hC.cell];simp [hi]
 have hf:w.frozen? ⟨b,i,none⟩=false:=hC.free i
 have hcs:v.cells=#[v]:=by cases v <;> first | rfl | simp [Value.oneCell'] at h1
 cases hq:P.info? ty with
 | none=>simp [hq] at hs
 | some q=>
  have hs1:q.size=1:=by simpa [hq] using hs
  have hst:=run_store P w ⟨b,i,none⟩ v .plain h1
  rw [hc] at hst
  simp only [hf] at hst
  have hrun:(Instr.storeAt ty (.pointer (some ⟨b,i,none⟩)) v).run P w=.ok () (w.setCell ⟨b,i,none⟩ v):=by
   have e0:(⟨b,i,none⟩:Addr).add 0=⟨b,i,none⟩:=by rw [Addr.add_mid];rfl
   simp [Instr.storeAt,Instr.sureAddr,storeVar,sizeOf,typeInfo,hq,hs1,hcs,storeCells,Sem.run_bind,e0,hst,Result.andThen]
  have hput:a.put op.dst undef=a:=by rw [hdst];rfl
  unfold Oper.wp execOp
  simp only [ho,hx,hy,Sem.run_bind,hrun,Result.andThen_ok,Sem.run_pure]
  show K (a.put op.dst undef) _
  rw [hput]
  exact hK _ _ (h _ (hC.set i v) (fun k hk=>heap_setCell_other w _ k v hk) (fun B a hb hB=>hb.setCell hB v))
end
section
variable {P:Program} {ops:Array Oper} {Q:Exit→Act→World→Prop} {S:World→Prop}
theorem plan_index {w:World} {a:Act} {o:Oper} {i:Nat} {r:Plan} (t e:TypeId) (x ix:Operand) (g off n c:Nat) (k:Nat) (ho:ops.toList[i]?=some o) (hw:Region.wanted o (yielded ops a.tmps)=true) (hop:o.op=.indexAddr t x ix)
 (hx:a.eval x=.slice (some ⟨g,off,none⟩) n c) (hi:a.eval ix=.int .i64 (k:Int)) (hk:k < n) (hu:P.underlying t=some (.slice e)) (hs:(P.info? e).map (·.size)=some 1)
 (h:wpPlan P ops Q S r (a.put o.dst (.pointer (some ⟨g,off+k,none⟩))) w):wpPlan P ops Q S (.take i r) a w:=
 plan_take _ ho hw (fun w' _=>by
  cases hq:P.info? e with
  | none=>simp [hq] at hs
  | some q=>
   have hs1:q.size=1:=by simpa [hq] using hs
   simp [execOp,hop,hx,hi,Instr.indexAt,asIntOf,Sem.run_bind,run_underlying hu,sizeOf,typeInfo,hq,hs1,hk,Addr.add]) h
theorem plan_cell {w:World} {a:Act} {o:Oper} {i:Nat} {r:Plan} (t:TypeId) (x:Operand) (p:Addr) (v:Value) (d:TypeDesc) (ho:ops.toList[i]?=some o) (hw:Region.wanted o (yielded ops a.tmps)=true) (hop:o.op=.load t x)
 (hx:a.eval x=.pointer (some p)) (hc:∀ w',S w'→w'.cell? p=some v) (hu:P.underlying t=some d) (hd:d.isRow=false)
 (h:wpPlan P ops Q S r (a.put o.dst v) w):wpPlan P ops Q S (.take i r) a w:=
 plan_take _ ho hw (fun w' hw'=>by
  have hagg:(isAgg t).run P w'=.ok false w':=by
   unfold isAgg
   rw [Sem.run_bind,run_underlying hu w']
   cases d <;> simp_all
  simp [execOp,hop,hx,Instr.loadAt,Instr.sureAddr,loadVar,Sem.run_bind,hagg,hc w' hw']) h
end
section
variable {P:Program} {ops:Array Oper} {Q:Exit→Act→World→Prop} {S:World→Prop} {w:World} {a:Act} {o:Oper} {i:Nat} {r:Plan}
theorem plan_index_arr (t e:TypeId) (n:Nat) (x ix:Operand) (g off z:Nat) (k:Nat) (ho:ops.toList[i]?=some o) (hw:Region.wanted o (yielded ops a.tmps)=true) (hop:o.op=.indexAddr t x ix)
 (hx:a.eval x=.pointer (some ⟨g,off,none⟩)) (hi:a.eval ix=.int .i64 (k:Int)) (hk:k < n) (hu:P.underlying t=some (.array n e)) (hs:(P.info? e).map (·.size)=some z) (_hz:0 < z)
 (h:wpPlan P ops Q S r (a.put o.dst (.pointer (some ⟨g,off+k*z,none⟩))) w):wpPlan P ops Q S (.take i r) a w:=
 plan_take _ ho hw (fun w' _=>by
  cases hq:P.info? e with
  | none=>simp [hq] at hs
  | some q=>
   have hs1:q.size=z:=by simpa [hq] using hs
   simp [execOp,hop,hx,hi,Instr.indexAt,asIntOf,Instr.sureAddr,Sem.run_bind,run_underlying hu,sizeOf,typeInfo,hq,hs1,hk,Addr.add_mid]) h
theorem plan_index_arr1 (t e:TypeId) (n:Nat) (x ix:Operand) (g:Nat) (k:Nat) (ho:ops.toList[i]?=some o) (hw:Region.wanted o (yielded ops a.tmps)=true) (hop:o.op=.indexAddr t x ix)
 (hx:a.eval x=.pointer (some ⟨g,0,none⟩)) (hi:a.eval ix=.int .i64 (k:Int)) (hk:k < n) (hu:P.underlying t=some (.array n e)) (hs:(P.info? e).map (·.size)=some 1)
 (h:wpPlan P ops Q S r (a.put o.dst (.pointer (some ⟨g,k,none⟩))) w):wpPlan P ops Q S (.take i r) a w:=
 plan_index_arr t e n x ix g 0 1 k ho hw hop hx hi hk hu hs (by decide) (by rw [show 0+k*1=k by omega];exact h)
theorem plan_field (t:TypeId) (x:Operand) (f:Nat) (g off:Nat) (p:Addr) (ho:ops.toList[i]?=some o) (hw:Region.wanted o (yielded ops a.tmps)=true) (hop:o.op=.fieldAddr t x f)
 (hx:a.eval x=.pointer (some ⟨g,off,none⟩)) (hr:∀ w',(Instr.fieldAt t (.pointer (some ⟨g,off,none⟩)) f).run P w'=.ok (.pointer (some p)) w')
 (h:wpPlan P ops Q S r (a.put o.dst (.pointer (some p))) w):wpPlan P ops Q S (.take i r) a w:=
 plan_take _ ho hw (fun w' _=>by
  have:=hr w'
  unfold execOp
  simp only [hop,hx,Sem.run_bind,this,Result.andThen_ok,Sem.run_pure]) h
theorem plan_row_at (ty:TypeId) (x:Operand) (b off n:Nat) (d:TypeDesc) (C R:Array Value) (t:TypeId) (ho:ops.toList[i]?=some o) (hw:Region.wanted o (yielded ops a.tmps)=true) (hop:o.op=.load ty x) (hx:a.eval x=.pointer (some ⟨b,off,none⟩))
 (hC:∀ w',S w'→At w' b C t) (hu:P.underlying ty=some d) (hd:d.isRow=true) (hi:(P.info? ty).map (·.size)=some n) (hn:off+n≤C.size) (hR:C.extract off (off+n)=R) (h:wpPlan P ops Q S r (a.put o.dst (.agg R)) w) :
 wpPlan P ops Q S (.take i r) a w:=
 plan_take _ ho hw (fun w' hw'=>by
  have hr:=run_loadAt_mid (P:=P) w' b off ty (C.extract off (off+n)).toList d ((hC w' hw').range off n) hu hd (by rw [hi];simp;omega)
  unfold execOp
  simp only [hop,hx,Sem.run_bind,hr,Result.andThen_ok,Sem.run_pure]
  simp [hR]) h
theorem plan_store_one (ty:TypeId) (x y:Operand) (b k:Nat) (v:Value) (C:Array Value) (t:TypeId) (ho:ops.toList[i]?=some o) (hw:Region.wanted o (yielded ops a.tmps)=true) (hop:o.op=.store ty x y) (hdst:o.dst=none)
 (hx:a.eval x=.pointer (some ⟨b,k,none⟩)) (hy:a.eval y=v) (h1:v.oneCell'=true) (hs:(P.info? ty).map (·.size)=some 1) (hC:At w b C t) (hk:k < C.size) (hS:S (w.setCell ⟨b,k,none⟩ v))
 (h:wpPlan P ops Q S r a (w.setCell ⟨b,k,none⟩ v)):wpPlan P ops Q S (.sole i r) a w:=by
 refine wpOp_at ho hw ?_
 have hput:a.put o.dst undef=a:=by rw [hdst];rfl
 have hc:w.cell? ⟨b,k,none⟩=some C[k]:=by rw [hC.cell];simp [hk]
 have hf:w.frozen? ⟨b,k,none⟩=false:=hC.free k
 have hcs:v.cells=#[v]:=by cases v <;> first | rfl | simp [Value.oneCell'] at h1
 cases hq:P.info? ty with
 | none=>simp [hq] at hs
 | some q=>
  have hs1:q.size=1:=by simpa [hq] using hs
  have hst:=run_store P w ⟨b,k,none⟩ v .plain h1
  rw [hc] at hst
  simp only [hf] at hst
  have hrun:(Instr.storeAt ty (.pointer (some ⟨b,k,none⟩)) v).run P w=.ok () (w.setCell ⟨b,k,none⟩ v):=by
   have e0:(⟨b,k,none⟩:Addr).add 0=⟨b,k,none⟩:=by rw [Addr.add_mid];rfl
   simp [Instr.storeAt,Instr.sureAddr,storeVar,sizeOf,typeInfo,hq,hs1,hcs,storeCells,Sem.run_bind,e0,hst,Result.andThen]
  unfold Oper.wp execOp
  simp only [hop,hx,hy,Sem.run_bind,hrun,Result.andThen_ok,Sem.run_pure]
  show S _∧wpPlan P ops Q S r (a.put o.dst undef) _
  rw [hput]
  exact ⟨hS,h⟩
end
theorem wpList_build {P:Program} {ops:Array Oper} {rest:List Oper} {o:Oper} {a:Act} {w:World} {Q:Exit→Act→World→Prop} (hw:Region.wanted o (yielded ops a.tmps)=true) (ty:TypeId) (parts:Array (Nat × Operand)) (ps:Array (Nat × Value)) (v:Value)
 (hop:o.op=.build ty parts) (hps:(parts.map fun (i,x)=>(i,a.eval x))=ps) (hv:∀ w',(Instr.build ty ps).run P w'=.ok v w') (h:wpList P ops Q rest (a.put o.dst v) w):wpList P ops Q (o::rest) a w:=by
 unfold wpList
 rw [if_pos hw]
 left
 unfold Oper.wp
 have:(execOp a.eval o).run P w=.ok (.value v) w:=by
  have:=hv w
  simp only [execOp,hop,hps]
  rw [Sem.run_bind,this];rfl
 rw [this]
 exact h
end Mem
end Go.Proofs.YtlhnegbjoncieaaGreatDoor
namespace Go.Proofs.YtlhnegbjoncieaaGreatDoor
namespace Sha
open Go.RowKit Mem
theorem at_keep {w w':World} {b c:Nat} {C:Array Value} {t:TypeId} (h:At w c C t) (o:∀ k,k≠b→w'.heap[k]?=w.heap[k]?) (hne:c≠b):At w' c C t:=by
 unfold At at *;rw [o c hne];exact h
theorem At.app {w w':World} {b:Nat} {C:Array Value} {t:TypeId} {v:Value} (h:At w b C t) (hk:∀ k,k < w.heap.size→v.ownBlock≠some k→w'.heap[k]?=w.heap[k]?) (hne:v.ownBlock≠some b):At w' b C t:=by
 have hl:=h.lt
 unfold At at *
 rw [hk b hl hne];exact h
theorem But.over {b c:Nat} {w w' w2:World} (h:But b w w') (k:But c w' w2) (hc:w.heap.size≤c):But b w w2:=
 ⟨Nat.le_trans h.size k.size,fun j hj hne=>(k.block j (Nat.lt_of_lt_of_le hj h.size) (by omega)).trans (h.block j hj hne)⟩
theorem But.same {b:Nat} {w w' w2:World} (h:But b w w') (k:But b w' w2):But b w w2:=
 ⟨Nat.le_trans h.size k.size,fun j hj hne=>(k.block j (Nat.lt_of_lt_of_le hj h.size) hne).trans (h.block j hj hne)⟩
end Sha
end Go.Proofs.YtlhnegbjoncieaaGreatDoor
namespace Go.Proofs.YtlhnegbjoncieaaGreatDoor
namespace Mem
open Go.RowKit
abbrev Foot:=Nat→Prop
structure Chg (F:Foot) (w w':World):Prop where
 os:w'.os=w.os
 tape:w'.tape=w.tape
 output:w'.output=w.output
 size:w.heap.size≤w'.heap.size
 block:∀ k,k < w.heap.size→¬ F k→w'.heap[k]?=w.heap[k]?
theorem Chg.refl (F:Foot) (w:World):Chg F w w:=⟨rfl,rfl,rfl,Nat.le_refl _,fun _ _ _=>rfl⟩
theorem Chg.of_below {F:Foot} {w w':World} (h:Below w.heap.size w w'):Chg F w w':=⟨h.os,h.tape,h.output,h.size,fun k hk _=>h.block k hk⟩
theorem Chg.trans {F F1:Foot} {w w1 w2:World} (h:Chg F w w1) (k:Chg F1 w1 w2) (hs:∀ x,F1 x→F x∨w.heap.size≤x):Chg F w w2:=
 ⟨k.os.trans h.os,k.tape.trans h.tape,k.output.trans h.output,Nat.le_trans h.size k.size,fun x hx hn=>(k.block x (Nat.lt_of_lt_of_le hx h.size) (fun h1=>(hs x h1).elim hn (fun h2=>by omega))).trans (h.block x hx hn)⟩
theorem Chg.mono {F G:Foot} {w w':World} (h:Chg F w w') (hs:∀ x,F x→G x∨w.heap.size≤x):Chg G w w':=
 ⟨h.os,h.tape,h.output,h.size,fun x hx hn=>h.block x hx (fun h1=>(hs x h1).elim hn (fun h2=>by omega))⟩
theorem Chg.below {F:Foot} {B:Nat} {x w w':World} (h:Chg F w w') (hb:Below B x w) (hF:∀ k,F k→B≤k) (hB:B≤w.heap.size):Below B x w':=
 ⟨h.os.trans hb.os,h.tape.trans hb.tape,h.output.trans hb.output,Nat.le_trans hb.size h.size,fun k hk=>(h.block k (Nat.lt_of_lt_of_le hk hB) (fun h1=>by have:=hF k h1;omega)).trans (hb.block k hk)⟩
theorem Chg.drew {F:Foot} {w w':World} (h:Chg F w w'):Chg F w w'.drew:=⟨h.os,h.tape,h.output,h.size,h.block⟩
theorem At.chg {F:Foot} {w w':World} {b:Nat} {C:Array Value} {t:TypeId} (h:At w b C t) (hc:Chg F w w') (hn:¬ F b):At w' b C t:=by
 have hl:=h.lt
 unfold At at *
 rw [hc.block b hl hn];exact h
def grow (F:Foot) (w w':World):Foot:=fun k=>(F k∨w.heap.size≤k)∧k < w'.heap.size
theorem grow_ext {F:Foot} {w w':World}:∀ k,grow F w w' k→F k∨w.heap.size≤k:=fun _ h=>h.1
theorem grow_lt {F:Foot} {w w':World}:∀ k,grow F w w' k→k < w'.heap.size:=fun _ h=>h.2
def SlR (F:Foot) (w:World) (z:Nat) (v:Value) (n:Nat) (xs:List Value):Prop:=
 xs.length=n*z∧∃ a cap,v=.slice a n cap∧n≤cap∧(n≠0→∃ bb oo,a=some ⟨bb,oo,none⟩∧F bb∧bb < w.heap.size∧∀ (j:Nat) u,xs[j]?=some u→w.cell? ⟨bb,oo+j,none⟩=some u)
theorem SlR.nil (F:Foot) (w:World) (z:Nat):SlR F w z (.slice none 0 0) 0 []:=⟨by simp,none,0,rfl,Nat.le_refl _,fun h=>absurd rfl h⟩
theorem SlR.keep {F:Foot} {w w':World} {z n:Nat} {v:Value} {xs:List Value} (h:SlR F w z v n xs) (hs:w.heap.size≤w'.heap.size) (hk:∀ k,F k→k < w.heap.size→w'.heap[k]?=w.heap[k]?):SlR F w' z v n xs:=by
 obtain ⟨hl,a,cap,e,hc,hr⟩:=h
 refine ⟨hl,a,cap,e,hc,fun hne=>?_⟩
 obtain ⟨bb,oo,ea,hF,hlt,hcell⟩:=hr hne
 exact ⟨bb,oo,ea,hF,Nat.lt_of_lt_of_le hlt hs,fun j u hu=>by rw [World.cell?_of_block (w:=w) (w':=w') (a:=⟨bb,oo+j,none⟩) (hk bb hF hlt)];exact hcell j u hu⟩
theorem SlR.mono {F G:Foot} {w:World} {z n:Nat} {v:Value} {xs:List Value} (h:SlR F w z v n xs) (hs:∀ k,F k→k < w.heap.size→G k):SlR G w z v n xs:=by
 obtain ⟨hl,a,cap,e,hc,hr⟩:=h
 refine ⟨hl,a,cap,e,hc,fun hne=>?_⟩
 obtain ⟨bb,oo,ea,hF,hlt,hcell⟩:=hr hne
 exact ⟨bb,oo,ea,hs bb hF hlt,hlt,hcell⟩
theorem SlR.below {F:Foot} {w w':World} {z n:Nat} {v:Value} {xs:List Value} (h:SlR F w z v n xs) (hb:Below w.heap.size w w'):SlR F w' z v n xs:=
 h.keep hb.size fun k _ hk=>hb.block k hk
theorem slR_at {F:Foot} {w:World} {z n cap:Nat} {a:Option Addr} {xs:List Value} (h:SlR F w z (.slice a n cap) n xs) {i:Nat} (hi:i < n) :
 ∃ b o,a=some ⟨b,o,none⟩∧F b∧∀ j,j < z→w.cell? ⟨b,o+(z*i+j),none⟩=xs[z*i+j]?:=by
 obtain ⟨hl,a',cap',e,_,hr⟩:=h
 injection e with e1 _ _
 obtain ⟨b,o,ea,hF,_,hc⟩:=hr (by omega)
 refine ⟨b,o,by rw [e1];exact ea,hF,fun j hj=>?_⟩
 have hlt:z*i+j < xs.length:=by
  rw [hl]
  have:z*i+z≤n*z:=by rw [←Nat.mul_succ,Nat.mul_comm];exact Nat.mul_le_mul_right z hi
  omega
 rw [List.getElem?_eq_getElem hlt]
 exact hc _ _ (List.getElem?_eq_getElem hlt)
def elemR (P:Program) (t e:TypeId) (zv:Value) (z bytes:Nat):Prop:=P.underlying t=some (.slice e)∧(P.info? e).map (fun i=>(i.zero,i.size,i.bytes))=some (some zv,z,bytes)
def RdR (w:World) (z:Nat) (v:Value) (n:Nat) (xs:List Value):Prop:=xs.length=n*z∧∃ a cap,v=.slice a n cap∧(n≠0→∃ p,a=some p∧∀ i u,xs[i]?=some u→w.cell? (p.add i)=some u)
theorem SlR.rd {F:Foot} {w:World} {z n:Nat} {v:Value} {xs:List Value} (h:SlR F w z v n xs):RdR w z v n xs:=by
 obtain ⟨hl,a,cap,e,_,hr⟩:=h
 refine ⟨hl,a,cap,e,fun hne=>?_⟩
 obtain ⟨bb,oo,ea,_,_,hc⟩:=hr hne
 exact ⟨_,ea,fun i u hu=>by rw [Addr.add_mid];exact hc i u hu⟩
theorem rdR_new {w:World} {e:TypeId} {C:Array Value}:RdR (w.alloc (.cells C e)) C.size (.slice (some ⟨w.heap.size,0,none⟩) 1 1) 1 C.toList:=
 ⟨by simp,_,_,rfl,fun _=>⟨_,rfl,fun i u hu=>by rw [Addr.add_mid,Nat.zero_add,(at_new w C e).cell,←hu,Array.getElem?_toList]⟩⟩
theorem ownsRow_slR {w:World} {B:Nat} {e:TypeId} {z n:Nat} {v:Value} {xs:List Value} (h:w.ownsRow B e z v n xs):SlR (fun k=>B≤k) w z v n xs:=by
 obtain ⟨hl,h | ⟨g,cap,cur,rfl,hg,hh,hn,hc,hs,ht⟩⟩:=h
 ·obtain ⟨rfl,rfl⟩:=h
  have:xs=[]:=List.eq_nil_of_length_eq_zero (by simpa using hl)
  subst this
  exact SlR.nil _ _ _
 ·refine ⟨hl,_,cap,rfl,hn,fun _=>⟨g,0,rfl,hg,(Array.getElem?_eq_some_iff.1 hh).1,fun j u hu=>?_⟩⟩
  have hi:=(List.getElem?_eq_some_iff.1 hu).1
  rw [Nat.zero_add,cell_of_row w g j cur _ (0,0) hh]
  have h1:(cur.toList.take (n*z))[j]?=xs[j]?:=by rw [ht]
  rw [List.getElem?_take,if_pos (by omega)] at h1
  rw [←Array.getElem?_toList,h1,hu]
theorem ownsRow_keep {w w':World} {B:Nat} {e:TypeId} {z n:Nat} {v:Value} {xs:List Value} (h:w.ownsRow B e z v n xs) (hk:∀ g,v.ownBlock=some g→w'.heap[g]?=w.heap[g]?):w'.ownsRow B e z v n xs:=by
 refine ⟨h.1,?_⟩
 rcases h.2 with hn | ⟨g,cap,cur,rfl,hg,hh,hr⟩
 ·exact .inl hn
 ·exact .inr ⟨g,cap,cur,rfl,hg,by rw [hk g rfl];exact hh,hr⟩
theorem ownsRow_below {w w':World} {B:Nat} {e:TypeId} {z n:Nat} {v:Value} {xs:List Value} (h:w.ownsRow B e z v n xs) (hb:Below w.heap.size w w'):w'.ownsRow B e z v n xs:=
 ownsRow_keep h fun g hg=>hb.block g (World.ownsRow.lt h g hg).2
theorem ownsRow_base {w:World} {B B':Nat} {e:TypeId} {z n:Nat} {v:Value} {xs:List Value} (h:w.ownsRow B e z v n xs) (hB:B'≤B):w.ownsRow B' e z v n xs:=by
 refine ⟨h.1,?_⟩
 rcases h.2 with hn | ⟨g,cap,cur,e,hg,hr⟩
 ·exact .inl hn
 ·exact .inr ⟨g,cap,cur,e,Nat.le_trans hB hg,hr⟩
theorem ownsRow_ne {w:World} {B B':Nat} {e e':TypeId} {z z' n n':Nat} {v v':Value} {xs ys:List Value} (h:w.ownsRow B e z v n xs) (k:w.ownsRow B' e' z' v' n' ys) (he:e≠e'):∀ g,v.ownBlock=some g→v'.ownBlock≠some g:=by
 intro g hg hg'
 rcases h.2 with ⟨rfl,_⟩ | ⟨b,cap,cur,rfl,_,hh,_⟩
 ·simp [Value.ownBlock] at hg
 rcases k.2 with ⟨rfl,_⟩ | ⟨b',cap',cur',rfl,_,hh',_⟩
 ·simp [Value.ownBlock] at hg'
 have e1:b=g:=by simpa [Value.ownBlock] using hg
 have e2:b'=g:=by simpa [Value.ownBlock] using hg'
 subst e1;subst e2
 rw [hh] at hh'
 injection hh' with hh'
 injection hh' with _ h2
 exact he h2
theorem ownsRow_nil0 (w:World) (B:Nat) (e:TypeId) (z:Nat):w.ownsRow B e z (.slice none 0 0) 0 []:=⟨by simp,.inl ⟨rfl,rfl⟩⟩
section
end
theorem ret_row_tmp {P:Program} {fn:Func} {R:Ending→World→Prop} {tmps:Array Value} {w:World} {p u:Tmp} {ty:TypeId} (h:fn.results=#[.cell p ty,.tmp u]) (g:Nat) (t:TypeId) (cs:Array Value) (d:TypeDesc) (v:Value)
 (hp:tmps.getD p undef=.pointer (some ⟨g,0,none⟩)) (hv:tmps.getD u undef=v) (hg:At w g cs t) (hu:P.underlying ty=some d) (hd:d.isRow=true) (hi:(P.info? ty).map (·.size)=some cs.size)
 (hR:R (.returned (.tuple #[.agg cs,v])) w):bodyPost P fn R .ret ⟨tmps,[]⟩ w:=by
 refine bodyPost_ret (v:=.tuple #[.agg cs,v]) ?_ rfl hR
 rw [results_cell_tmp h,hp,hv]
 have hrow:=run_loadVar_row (P:=P) w g t ty cs (0,0) d hg hu (by cases d <;> first | rfl | exact hd) hi
 simp [asAddr,Result.andThen,hrow]
def Each2 {α β:Type} (R:α→β→Prop):List α→List β→Prop
 | [],[]=>True
 | x::l,y::m=>R x y∧Each2 R l m
 | _,_=>False
theorem Each2.length {α β:Type} {R:α→β→Prop}:∀ {l:List α} {m:List β},Each2 R l m→l.length=m.length
 | [],[],_=>rfl
 | _::l,_::m,h=>by simp [Each2.length h.2]
theorem Each2.mono {α β:Type} {R S:α→β→Prop} (hs:∀ x y,R x y→S x y):∀ {l:List α} {m:List β},Each2 R l m→Each2 S l m
 | [],[],_=>trivial
 | _::_,_::_,h=>⟨hs _ _ h.1,Each2.mono hs h.2⟩
theorem Each2.snoc {α β:Type} {R:α→β→Prop} {x:α} {y:β} (hr:R x y):∀ {l:List α} {m:List β},Each2 R l m→Each2 R (l++[x]) (m++[y])
 | [],[],_=>⟨hr,trivial⟩
 | _::_,_::_,h=>⟨h.1,Each2.snoc hr h.2⟩
theorem Each2.at {α β:Type} {R:α→β→Prop}:∀ {l:List α} {m:List β},Each2 R l m→∀ {i:Nat} {y:β},m[i]?=some y→∃ x,l[i]?=some x∧R x y
 | [],[],_,_,_,hy=>by simp at hy
 | _::_,z::_,h,0,y,hy=>by
  have hzy:z=y:=by simpa using hy
  subst hzy
  exact ⟨_,rfl,h.1⟩
 | _::l,_::m,h,i+1,y,hy=>by
  have hy':m[i]?=some y:=by simpa using hy
  simpa using Each2.at h.2 hy'
end Mem
end Go.Proofs.YtlhnegbjoncieaaGreatDoor
namespace Go.Proofs.YtlhnegbjoncieaaGreatDoor
namespace Mem
open Go.RowKit
variable {P:Program} {ops:Array Oper} {K:World→Prop} {Q:Act→Prop} {a:Act} {op:Oper} {rest:List Oper}
theorem wpQuiet_value (hgd:op.guard=none) (v:Value) (hv:∀ w,K w→(execOp a.eval op).run P w=.ok (.value v) w) (h:wpQuiet P ops K Q rest (a.put op.dst v)):wpQuiet P ops K Q (op::rest) a:=by
 refine wpQuiet_step fun L hL=>?_
 rw [if_pos (by simp [Region.wanted,hgd])]
 refine ⟨v,fun w hw=>?_,hL _ h⟩
 unfold Oper.quietAt
 rw [hv w hw]
 exact ⟨rfl,rfl⟩
theorem wpQuiet_load_all (hgd:op.guard=none) (ty:TypeId) (x:Operand) (ho:op.op=.load ty x) (b:Nat) (hx:a.eval x=.pointer (some ⟨b,0,none⟩)) (d:TypeDesc) (hu:P.underlying ty=some d) (hd:d.isRow=true)
 (C:Array Value) (t:TypeId) (hC:∀ w,K w→At w b C t) (hi:(P.info? ty).map (·.size)=some C.size) (h:wpQuiet P ops K Q rest (a.put op.dst (.agg C))):wpQuiet P ops K Q (op::rest) a:=
 wpQuiet_value hgd (.agg C) (fun w hw=>by
  have hr:=run_loadAt_mid (P:=P) w b 0 ty (C.extract 0 (0+C.size)).toList d ((hC w hw).range 0 C.size) hu hd (by rw [hi];simp)
  unfold execOp
  simp only [ho,hx,Sem.run_bind,hr,Result.andThen_ok,Sem.run_pure]
  simp) h
theorem wpQuiet_slice_arr_to (hgd:op.guard=none) (ty:TypeId) (x i:Operand) (ho:op.op=.slice ty x none (some i) none)
 (n:Nat) (elem:TypeId) (hu:P.underlying ty=some (.array n elem)) (hs:(P.info? elem).map (·.size)=some 1) (b o k:Nat) (hx:a.eval x=.pointer (some ⟨b,o,none⟩)) (hi:a.eval i=.int .i64 (k:Int)) (hk:k≤n)
 (h:wpQuiet P ops K Q rest (a.put op.dst (.slice (some ⟨b,o,none⟩) k n))):wpQuiet P ops K Q (op::rest) a:=
 wpQuiet_value hgd _ (fun w _=>by
  cases hq:P.info? elem with
  | none=>simp [hq] at hs
  | some q=>
   have hs1:q.size=1:=by simpa [hq] using hs
   have hat:(Instr.sliceAt ty (.pointer (some ⟨b,o,none⟩)) none (some (.int .i64 (k:Int))) none).run P w=.ok (.slice (some ⟨b,o,none⟩) k n) w:=by
    simp [Instr.sliceAt,Instr.sureAddr,Instr.sliceBounds,Instr.sliceBound,asIntOf,Sem.run_bind,run_underlying hu,sizeOf,typeInfo,hq,hk,Addr.add_mid]
   unfold execOp
   simp only [ho,hx,hi,Option.map_some,Option.map_none,Sem.run_bind,hat,Result.andThen_ok,Sem.run_pure]) h
end Mem
end Go.Proofs.YtlhnegbjoncieaaGreatDoor
namespace Go.Proofs.YtlhnegbjoncieaaGreatDoor
namespace Mem
open Go.RowKit
section
variable {P:Program} {ops:Array Oper} {Q:Exit→Act→World→Prop} {S:World→Prop} {w:World} {a:Act} {o:Oper} {i:Nat} {r:Plan}
theorem plan_nilcheck (x:Operand) (p:Addr) (ho:ops.toList[i]?=some o) (hw:Region.wanted o (yielded ops a.tmps)=true) (hop:o.op=.nilCheck x) (hx:a.eval x=.pointer (some p))
 (h:wpPlan P ops Q S r (a.put o.dst (.pointer (some p))) w):wpPlan P ops Q S (.take i r) a w:=
 plan_take _ ho hw (fun w' _=>by simp [execOp,hop,hx]) h
theorem plan_index_z (t e:TypeId) (x ix:Operand) (g off n c z:Nat) (k:Nat) (ho:ops.toList[i]?=some o) (hw:Region.wanted o (yielded ops a.tmps)=true) (hop:o.op=.indexAddr t x ix)
 (hx:a.eval x=.slice (some ⟨g,off,none⟩) n c) (hi:a.eval ix=.int .i64 (k:Int)) (hk:k < n) (hu:P.underlying t=some (.slice e)) (hs:(P.info? e).map (·.size)=some z)
 (h:wpPlan P ops Q S r (a.put o.dst (.pointer (some ⟨g,off+k*z,none⟩))) w):wpPlan P ops Q S (.take i r) a w:=
 plan_take _ ho hw (fun w' _=>by
  cases hq:P.info? e with
  | none=>simp [hq] at hs
  | some q=>
   have hs1:q.size=z:=by simpa [hq] using hs
   simp [execOp,hop,hx,hi,Instr.indexAt,asIntOf,Sem.run_bind,run_underlying hu,sizeOf,typeInfo,hq,hs1,hk,Addr.add]) h
theorem plan_sole_val (v:Value) (ho:ops.toList[i]?=some o) (hw:Region.wanted o (yielded ops a.tmps)=true) (hv:(execOp a.eval o).run P w=.ok (.value v) w) (hS:S w)
 (h:wpPlan P ops Q S r (a.put o.dst v) w):wpPlan P ops Q S (.sole i r) a w:=by
 refine wpOp_at ho hw ?_
 unfold Oper.wp
 rw [hv]
 exact ⟨hS,h⟩
theorem plan_sole_cell (t:TypeId) (x:Operand) (p:Addr) (v:Value) (d:TypeDesc) (ho:ops.toList[i]?=some o) (hw:Region.wanted o (yielded ops a.tmps)=true) (hop:o.op=.load t x)
 (hx:a.eval x=.pointer (some p)) (hc:w.cell? p=some v) (hu:P.underlying t=some d) (hd:d.isRow=false) (hS:S w)
 (h:wpPlan P ops Q S r (a.put o.dst v) w):wpPlan P ops Q S (.sole i r) a w:=
 plan_sole_val v ho hw (by
  have hagg:(isAgg t).run P w=.ok false w:=by
   unfold isAgg
   rw [Sem.run_bind,run_underlying hu w]
   cases d <;> simp_all
  simp [execOp,hop,hx,Instr.loadAt,Instr.sureAddr,loadVar,Sem.run_bind,hagg,hc]) hS h
end
theorem plan_load_range {P:Program} {ops:Array Oper} {Q:Exit→Act→World→Prop} {S:World→Prop} {w:World} {a:Act} {o:Oper} {i:Nat} {r:Plan} (ty:TypeId) (x:Operand) (b off:Nat) (d:TypeDesc) (R:Array Value) (ho:ops.toList[i]?=some o) (hw:Region.wanted o (yielded ops a.tmps)=true) (hop:o.op=.load ty x) (hx:a.eval x=.pointer (some ⟨b,off,none⟩))
 (hC:∀ w',S w'→w'.rangeAt b off R.toList) (hu:P.underlying ty=some d) (hd:d.isRow=true) (hi:(P.info? ty).map (·.size)=some R.size) (h:wpPlan P ops Q S r (a.put o.dst (.agg R)) w) :
 wpPlan P ops Q S (.take i r) a w:=
 plan_take _ ho hw (fun w' hw'=>by
  have hr:=run_loadAt_mid (P:=P) w' b off ty R.toList d (hC w' hw') hu hd (by rw [hi];simp)
  unfold execOp
  simp only [hop,hx,Sem.run_bind,hr,Result.andThen_ok,Sem.run_pure]) h
theorem plan_not {P:Program} {ops:Array Oper} {Q:Exit→Act→World→Prop} {S:World→Prop} {w:World} {a:Act} {o:Oper} {i:Nat} {r:Plan} (t:TypeId) (x:Operand) (b:Bool) (ho:ops.toList[i]?=some o) (hw:Region.wanted o (yielded ops a.tmps)=true) (hop:o.op=.unOp .not t x)
 (hx:a.eval x=.bool b) (h:wpPlan P ops Q S r (a.put o.dst (.bool (!b))) w):wpPlan P ops Q S (.take i r) a w:=
 plan_take _ ho hw (fun w' _=>by cases b <;> simp [execOp,hop,hx,Op.unary]) h
theorem plan_extract {P:Program} {ops:Array Oper} {Q:Exit→Act→World→Prop} {S:World→Prop} {w:World} {a:Act} {o:Oper} {i:Nat} {r:Plan} (x:Operand) (k:Nat) (vs:Array Value) (v:Value) (ho:ops.toList[i]?=some o) (hw:Region.wanted o (yielded ops a.tmps)=true) (hop:o.op=.extract x k)
 (hx:a.eval x=.tuple vs) (hv:vs[k]?=some v) (h:wpPlan P ops Q S r (a.put o.dst v) w):wpPlan P ops Q S (.take i r) a w:=
 plan_take v ho hw (fun w' _=>by simp [execOp,hop,hx,Instr.extract,hv]) h
end Mem
end Go.Proofs.YtlhnegbjoncieaaGreatDoor
