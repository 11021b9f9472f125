/- My own texts, merged. -/
import Derived.WalkKit
import Derived.Deep.MidRow
import Derived.Deep.Draws
import Derived.Deep.WholeRow
import Derived.Laws.CopyOwn
import Derived.Deep.RegionHeld3
import Derived.NoCompiler
import Derived.Great.Walk
import Derived.Stop.BytesEq
import Derived.Laws.StructEq
import Derived.RangeFuncNested
import Derived.RangeFuncLeaves
namespace Go.Proofs.YtlhnegbjoncieaaGreatDoor
abbrev Lb8:=List (BitVec 8)
theorem zr {α:Sort _} {a b:α} (h:a=b:=by rfl):a=b:=h
theorem zh {p:Prop} (h:p):Go.RowKit.Hid p:=h
namespace Mem
open Go.RowKit
def At (w:World) (b:Nat) (C:Array Value) (t:TypeId):Prop:=w.heap[b]?=some (.cells C t (0,0))
theorem At.cell {w:World} {b:Nat} {C:Array Value} {t:TypeId} (h:At w b C t) (i:Nat):w.cell? ⟨b,i,none⟩=C[i]?:=cell_of_row w b i C t (0,0) h
theorem At.free {w:World} {b:Nat} {C:Array Value} {t:TypeId} (h:At w b C t) (i:Nat):w.frozen? ⟨b,i,none⟩=false:=frozen_of_row w b i C t h
theorem At.lt {w:World} {b:Nat} {C:Array Value} {t:TypeId} (h:At w b C t):b < w.heap.size:=by
 unfold At at h
 exact (Array.getElem?_eq_some_iff.1 h).1
theorem At.below {w w':World} {B b:Nat} {C:Array Value} {t:TypeId} (h:At w b C t) (hb:Below B w w') (hlt:b < B):At w' b C t:=by
 unfold At at *;rw [hb.block b hlt];exact h
theorem At.drew {w:World} {b:Nat} {C:Array Value} {t:TypeId} (h:At w b C t):At w.drew b C t:=h
theorem At.set {w:World} {b:Nat} {C:Array Value} {t:TypeId} (h:At w b C t) (i:Nat) (v:Value):At (w.setCell ⟨b,i,none⟩ v) b (C.setIfInBounds i v) t:=heap_setCell_same w b i C t v h
theorem At.set_other {w:World} {b:Nat} {C:Array Value} {t:TypeId} (h:At w b C t) (a:Addr) (v:Value) (hne:b≠a.block):At (w.setCell a v) b C t:=by
 unfold At;rw [heap_setCell_other w a b v hne];exact h
theorem At.alloc {w:World} {b:Nat} {C:Array Value} {t:TypeId} (h:At w b C t) (o:Obj):At (w.alloc o) b C t:=by
 have hl:=h.lt
 unfold At;rw [Below.heap_alloc w o b hl];exact h
theorem at_new (w:World) (C:Array Value) (t:TypeId):At (w.alloc (.cells C t)) w.heap.size C t:=heap_alloc_new w _
theorem At.row {w:World} {b:Nat} {C:Array Value} {t:TypeId} (h:At w b C t) (D:Array Value):At (w.setRow b D) b D t:=setRow_heap w b C D t _ h
theorem At.row_other {w:World} {b g:Nat} {C:Array Value} {t:TypeId} (h:At w b C t) (D:Array Value) (hne:b≠g):At (w.setRow g D) b C t:=by
 unfold At;rw [setRow_other w g b D hne];exact h
theorem below_row {B:Nat} {a w:World} (h:Below B a w) {g:Nat} (hg:B≤g) (D:Array Value):Below B a (w.setRow g D):=
 h.trans ⟨rfl,rfl,rfl,by simp,fun k hk=>setRow_other w g k D (by omega)⟩
theorem At.range {w:World} {b:Nat} {C:Array Value} {t:TypeId} (h:At w b C t) (o n:Nat):w.rangeAt b o (C.extract o (o+n)).toList:=World.rangeAt_of_block h o n
def splice (C:Array Value) (o:Nat) (D:List Value):Array Value:=(C.toList.take o++D++C.toList.drop (o+D.length)).toArray
theorem setCells_row {t:TypeId}:∀ (D:List Value) (o:Nat) (w:World) (b:Nat) (C:Array Value),At w b C t→o+D.length≤C.size→w.setCells b o D=w.setRow b (splice C o D)
 | [],o,w,b,C,h,_=>by
  have e:splice C o []=C:=by simp [splice]
  rw [e,World.setCells]
  have hlt:=h.lt
  have hv:w.heap[b]=.cells C t (0,0):=(Array.getElem?_eq_some_iff.1 h).2
  unfold World.setRow
  cases w with
  | mk heap tape drawn os output=>
   congr 1
   apply Array.ext
   ·simp
   ·intro k h1 h2
    simp only [Array.getElem_modify]
    split
    ·rename_i hk;subst hk;simp at hv;simp [hv]
    ·rfl
 | v::r,o,w,b,C,h,hl=>by
  have hs:(C.setIfInBounds o v).size=C.size:=by simp
  rw [World.setCells,setCells_row r (o+1) _ b _ (h.set o v) (by simp at hl ⊢;omega),setCell_eq_setRow w b o C t (0,0) v h,setRow_setRow]
  congr 1
  simp only [List.length_cons] at hl
  unfold splice
  congr 1
  apply List.ext_getElem?
  intro k
  simp only [Array.toList_setIfInBounds,List.getElem?_append,List.length_append,List.length_take,List.length_set,Array.length_toList,List.length_cons,List.getElem?_drop,List.drop_set]
  have e1:min (o+1) C.size=o+1:=by omega
  have e2:min o C.size=o:=by omega
  rw [e1,e2]
  by_cases h1:k < o
  ·simp [h1,show k < o+1 by omega,show k < o+1+r.length by omega,show k < o+(r.length+1) by omega,show o≠k by omega]
  ·by_cases h2:k=o
   ·subst h2
    simp [show k < C.size by omega]
    omega
   ·by_cases h3:k < o+1+r.length
    ·simp [h1,h3,show ¬ k < o+1 by omega,show k < o+(r.length+1) by omega,show k - o=(k - (o+1))+1 by omega]
    ·simp [h3,show ¬ k < o+(r.length+1) by omega,show o < o+1+r.length by omega]
     congr 1;omega
section
variable {P:Program}
theorem wpList_load_at {ops:Array Oper} {rest:List Oper} {op:Oper} {a:Act} {w:World} {Q:Exit→Act→World→Prop} (hgd:op.guard=none) (ty:TypeId) (x:Operand) (ho:op.op=.load ty x)
 (b o n:Nat) (hx:a.eval x=.pointer (some ⟨b,o,none⟩)) (d:TypeDesc) (hu:P.underlying ty=some d) (hd:d.isRow=true) (hi:(P.info? ty).map (·.size)=some n)
 (C:Array Value) (t:TypeId) (hC:At w b C t) (hn:o+n≤C.size)
 (h:wpList P ops Q rest (a.put op.dst (.agg (C.extract o (o+n)))) w):wpList P ops Q (op::rest) a w:=by
 refine wpList_load_mid hgd ty x ho b o hx _ d (hC.range o n) hu hd ?_ ?_
 ·rw [hi];simp;omega
 ·rw [Array.toArray_toList];exact h
theorem wpList_load_all {ops:Array Oper} {rest:List Oper} {op:Oper} {a:Act} {w:World} {Q:Exit→Act→World→Prop} (hgd:op.guard=none) (ty:TypeId) (x:Operand) (ho:op.op=.load ty x)
 (b:Nat) (hx:a.eval x=.pointer (some ⟨b,0,none⟩)) (d:TypeDesc) (hu:P.underlying ty=some d) (hd:d.isRow=true)
 (C:Array Value) (t:TypeId) (hC:At w b C t) (hi:(P.info? ty).map (·.size)=some C.size)
 (h:wpList P ops Q rest (a.put op.dst (.agg C)) w):wpList P ops Q (op::rest) a w:=by
 refine wpList_load_at hgd ty x ho b 0 C.size hx d hu hd hi C t hC (by omega) ?_
 simpa using h
theorem wpList_store_at {ops:Array Oper} {rest:List Oper} {op:Oper} {a:Act} {w:World} {Q:Exit→Act→World→Prop} (hgd:op.guard=none) (ty:TypeId) (x y:Operand) (ho:op.op=.store ty x y) (hdst:op.dst=none)
 (b o:Nat) (D:Array Value) (hx:a.eval x=.pointer (some ⟨b,o,none⟩)) (hy:a.eval y=.agg D) (hi:(P.info? ty).map (·.size)=some D.size)
 (C:Array Value) (t:TypeId) (hC:At w b C t) (hn:o+D.size≤C.size) (h1:D.all (·.oneCell')=true)
 (h:wpList P ops Q rest a (w.setRow b (splice C o D.toList))):wpList P ops Q (op::rest) a w:=by
 have hput:a.put op.dst undef=a:=by rw [hdst];rfl
 refine wpList_store_mid hgd ty x y ho b o D hx hy (fun j hj=>?_) hi h1 ?_
 ·rw [hC.cell,hC.free]
  exact ⟨by simp;omega,rfl⟩
 ·rw [setCells_row _ _ _ _ _ hC (by simpa using hn),hput];exact h
theorem splice_all (C D:Array Value) (h:D.size=C.size):splice C 0 D.toList=D:=by
 have e:List.drop C.size C.toList=[]:=List.drop_of_length_le (by simp)
 simp [splice,h,e]
theorem wpList_store_all {ops:Array Oper} {rest:List Oper} {op:Oper} {a:Act} {w:World} {Q:Exit→Act→World→Prop} (hgd:op.guard=none) (ty:TypeId) (x y:Operand) (ho:op.op=.store ty x y) (hdst:op.dst=none)
 (b:Nat) (D:Array Value) (hx:a.eval x=.pointer (some ⟨b,0,none⟩)) (hy:a.eval y=.agg D) (hi:(P.info? ty).map (·.size)=some D.size)
 (C:Array Value) (t:TypeId) (hC:At w b C t) (hn:D.size=C.size) (h1:D.all (·.oneCell')=true)
 (h:wpList P ops Q rest a (w.setRow b D)):wpList P ops Q (op::rest) a w:=by
 refine wpList_store_at hgd ty x y ho hdst b 0 D hx hy hi C t hC (by omega) h1 ?_
 rw [splice_all C D hn];exact h
end
theorem wpList_index_row {P:Program} {ops:Array Oper} {rest:List Oper} {op:Oper} {a:Act} {w:World} {Q:Exit→Act→World→Prop} (hgd:op.guard=none) (ty:TypeId) (x i:Operand) (ho:op.op=.index ty x i)
 (n:Nat) (e:TypeId) (hu:P.underlying ty=some (.array n e)) (de:TypeDesc) (he:P.underlying e=some de) (hde:de.isRow=false) (hs:(P.info? e).map (·.size)=some 1)
 (C:Array Value) (k:Nat) (hx:a.eval x=.agg C) (hi:a.eval i=.int .i64 (k:Int)) (hk:k < n) (v:Value) (hv:C[k]?=some v)
 (h:wpList P ops Q rest (a.put op.dst v) w):wpList P ops Q (op::rest) a w:=by
 refine wpList_plain hgd fun K hK=>?_
 have hagg:(isAgg e).run P w=.ok false w:=by
  unfold isAgg
  rw [Sem.run_bind,run_underlying he w]
  cases de <;> simp_all
 cases hq:P.info? e with
 | none=>simp [hq] at hs
 | some q=>
  have hs1:q.size=1:=by simpa [hq] using hs
  have hrun:(Instr.index ty (.agg C) (.int .i64 (k:Int))).run P w=.ok v w:=by
   simp [Instr.index,asIntOf,Sem.run_bind,run_underlying hu,sizeOf,typeInfo,hq,hs1,hk,part,hagg,hv]
  unfold Oper.wp execOp
  simp only [ho,hx,hi,Sem.run_bind,hrun,Result.andThen_ok,Sem.run_pure]
  exact hK _ _ h
theorem wpList_store_new {P:Program} {ops:Array Oper} {rest:List Oper} {op:Oper} {a:Act} {w:World} {Q:Exit→Act→World→Prop} (hgd:op.guard=none) (ty:TypeId) (x y:Operand) (ho:op.op=.store ty x y) (hdst:op.dst=none)
 (D C:Array Value) (t:TypeId) (hx:a.eval x=.pointer (some ⟨w.heap.size,0,none⟩)) (hy:a.eval y=.agg D) (hi:(P.info? ty).map (·.size)=some D.size)
 (hn:D.size=C.size) (h1:D.all (·.oneCell')=true)
 (h:wpList P ops Q rest a (w.alloc (.cells D t))):wpList P ops Q (op::rest) a (w.alloc (.cells C t)):=by
 refine wpList_store_all hgd ty x y ho hdst w.heap.size D hx hy hi C t (at_new w C t) hn h1 ?_
 rw [World.setRow_alloc_new];exact h
section
variable {P:Program}
theorem wpList_load_is {ops:Array Oper} {rest:List Oper} {op:Oper} {a:Act} {w:World} {Q:Exit→Act→World→Prop} (hgd:op.guard=none) (ty:TypeId) (x:Operand) (ho:op.op=.load ty x)
 (b o n:Nat) (hx:a.eval x=.pointer (some ⟨b,o,none⟩)) (d:TypeDesc) (hu:P.underlying ty=some d) (hd:d.isRow=true) (hi:(P.info? ty).map (·.size)=some n)
 (C:Array Value) (t:TypeId) (hC:At w b C t) (hn:o+n≤C.size) (R:Array Value) (hR:C.extract o (o+n)=R)
 (h:wpList P ops Q rest (a.put op.dst (.agg R)) w):wpList P ops Q (op::rest) a w:=
 wpList_load_at hgd ty x ho b o n hx d hu hd hi C t hC hn (by rw [hR];exact h)
theorem wpList_store_is {ops:Array Oper} {rest:List Oper} {op:Oper} {a:Act} {w:World} {Q:Exit→Act→World→Prop} (hgd:op.guard=none) (ty:TypeId) (x y:Operand) (ho:op.op=.store ty x y) (hdst:op.dst=none)
 (b o:Nat) (D:Array Value) (hx:a.eval x=.pointer (some ⟨b,o,none⟩)) (hy:a.eval y=.agg D) (hi:(P.info? ty).map (·.size)=some D.size)
 (C:Array Value) (t:TypeId) (hC:At w b C t) (hn:o+D.size≤C.size) (h1:D.all (·.oneCell')=true) (E:Array Value) (hE:splice C o D.toList=E)
 (h:∀ w',At w' b E t→w'.heap.size=w.heap.size→(∀ k,k≠b→w'.heap[k]?=w.heap[k]?)→(∀ B a,Below B a w→B≤b→Below B a w')→wpList P ops Q rest a w'):wpList P ops Q (op::rest) a w:=by
 refine wpList_store_at hgd ty x y ho hdst b o D hx hy hi C t hC hn h1 ?_
 rw [hE]
 exact h _ (hC.row E) (by simp) (fun k hk=>setRow_other w b k E hk) (fun B a hb hB=>below_row hb hB E)
theorem wpList_copy_at {ops:Array Oper} {rest:List Oper} {op:Oper} {a:Act} {w:World} {Q:Exit→Act→World→Prop} (hgd:op.guard=none) (x y:Operand) (dT sT:TypeId)
 (ho:op.op=.call { callee:=.builtin .copy,args:=#[x,y],argTypes:=#[dT,sT] }) (elem:TypeId) (hu:P.underlying dT=some (.slice elem)) (hs:(P.info? elem).map (·.size)=some 1)
 (b o dLen dCap:Nat) (sa:Addr) (sLen sCap:Nat) (hx:a.eval x=.slice (some ⟨b,o,none⟩) dLen dCap) (hy:a.eval y=.slice (some sa) sLen sCap)
 (cs:List Value) (hn:cs.length=Nat.min sLen dLen) (hsrc:∀ j v,cs[j]?=some v→w.cell? (sa.add j)=some v) (h1:∀ v∈cs,v.oneCell'=true)
 (C:Array Value) (t:TypeId) (hC:At w b C t) (hfit:o+cs.length≤C.size) (E:Array Value) (hE:splice C o cs=E) (kk:Nat) (hkk:cs.length=kk)
 (h:∀ w',At w' b E t→w'.heap.size=w.heap.size→(∀ k,k≠b→w'.heap[k]?=w.heap[k]?)→(∀ B a,Below B a w→B≤b→Below B a w')→wpList P ops Q rest (a.put op.dst (.int .i64 (kk:Int))) w'):wpList P ops Q (op::rest) a w:=by
 refine wpList_copy_own hgd x y dT sT ho elem hu hs b o dLen dCap sa sLen sCap hx hy C t hC cs hn hsrc hfit h1 ?_
 have e:(C.toList.take o++(cs++C.toList.drop (o+cs.length))).toArray=E:=by rw [←hE,splice,List.append_assoc]
 rw [e,hkk]
 exact h _ (hC.row E) (by simp) (fun k hk=>setRow_other w b k E hk) (fun B a hb hB=>below_row hb hB E)
theorem wpList_slice_low {ops:Array Oper} {rest:List Oper} {op:Oper} {a:Act} {w:World} {Q:Exit→Act→World→Prop} (hgd:op.guard=none) (ty:TypeId) (x i:Operand) (ho:op.op=.slice ty x (some i) none none)
 (elem:TypeId) (hu:P.underlying ty=some (.slice elem)) (hs:(P.info? elem).map (·.size)=some 1) (a0:Option Addr) (len cap k:Nat) (hx:a.eval x=.slice a0 len cap) (hi:a.eval i=.int .i64 (k:Int)) (hk:k≤len)
 (h:∀ a1,(∀ bb oo,a0=some ⟨bb,oo,none⟩→k < cap→a1=some ⟨bb,oo+k,none⟩)→wpList P ops Q rest (a.put op.dst (.slice a1 (len - k) (cap - k))) w):wpList P ops Q (op::rest) a w:=by
 refine wpList_plain hgd fun K hK=>?_
 cases hq:P.info? elem with
 | none=>simp [hq] at hs
 | some q=>
  have hs1:q.size=1:=by simpa [hq] using hs
  have hrun:(Instr.slice ty (.slice a0 len cap) (some (.int .i64 (k:Int))) none none).run P w=.ok (.slice (if cap=k then a0 else a0.map (·.add k)) (len - k) (cap - k)) w:=by
   simp [Instr.slice,Instr.sliceBounds,Instr.sliceBound,asIntOf,Sem.run_bind,run_underlying hu,sizeOf,typeInfo,hq,hs1,hk]
  unfold Oper.wp execOp
  have hat:(Instr.sliceAt ty (.slice a0 len cap) (some (.int .i64 (k:Int))) none none).run P w=.ok (.slice (if cap=k then a0 else a0.map (·.add k)) (len - k) (cap - k)) w:=by
   simp [Instr.sliceAt,Sem.run_bind,run_underlying hu,hrun]
  simp only [ho,hx,hi,Option.map_some,Option.map_none,Sem.run_bind,hat,Result.andThen_ok,Sem.run_pure]
  refine hK _ _ (h _ ?_)
  intro bb oo e hlt
  subst e
  rw [if_neg (by omega)]
  simp [Addr.add_mid]
theorem wpList_slice_arr {ops:Array Oper} {rest:List Oper} {op:Oper} {a:Act} {w:World} {Q:Exit→Act→World→Prop} (hgd:op.guard=none) (ty:TypeId) (x i:Operand) (ho:op.op=.slice ty x (some i) none none)
 (n:Nat) (elem:TypeId) (hu:P.underlying ty=some (.array n elem)) (hs:(P.info? elem).map (·.size)=some 1) (b o k:Nat) (hx:a.eval x=.pointer (some ⟨b,o,none⟩)) (hi:a.eval i=.int .i64 (k:Int)) (hk:k < n)
 (h:wpList P ops Q rest (a.put op.dst (.slice (some ⟨b,o+k,none⟩) (n - k) (n - k))) w):wpList P ops Q (op::rest) a w:=by
 refine wpList_plain hgd fun K hK=>?_
 cases hq:P.info? elem with
 | none=>simp [hq] at hs
 | some q=>
  have hs1:q.size=1:=by simpa [hq] using hs
  have hne:¬ n=k:=by omega
  have hle:(k:Int)≤(n:Int):=by omega
  have hat:(Instr.sliceAt ty (.pointer (some ⟨b,o,none⟩)) (some (.int .i64 (k:Int))) none none).run P w=.ok (.slice (some ⟨b,o+k,none⟩) (n - k) (n - k)) w:=by
   simp [Instr.sliceAt,Instr.sureAddr,Instr.sliceBounds,Instr.sliceBound,asIntOf,Sem.run_bind,run_underlying hu,sizeOf,typeInfo,hq,hs1,hne,Addr.add_mid]
   omega
  unfold Oper.wp execOp
  simp only [ho,hx,hi,Option.map_some,Option.map_none,Sem.run_bind,hat,Result.andThen_ok,Sem.run_pure]
  exact hK _ _ h
end
theorem Below.drewN' {B n:Nat} {a w:World} (h:Below B a w):Below B a (w.drewN n):=⟨h.os,h.tape,h.output,h.size,h.block⟩
theorem ret_row {P:Program} {fn:Func} {R:Ending→World→Prop} {tmps:Array Value} {w:World} {p:Tmp} {ty:TypeId} (h:fn.results=#[.cell p ty]) (g:Nat) (t:TypeId) (cs:Array Value) (d:TypeDesc)
 (hp:tmps.getD p undef=.pointer (some ⟨g,0,none⟩)) (hg:At w g cs t) (hu:P.underlying ty=some d) (hd:d.isRow=true) (hi:(P.info? ty).map (·.size)=some cs.size)
 (hR:R (.returned (.agg cs)) w):bodyPost P fn R .ret ⟨tmps,[]⟩ w:=
 bodyPost_ret (v:=.agg cs) (results_cell_row h tmps w g t cs (0,0) d hp hg hu (by cases d <;> first | rfl | exact hd) hi) rfl hR
end Mem
end Go.Proofs.YtlhnegbjoncieaaGreatDoor
namespace Go.Proofs.YtlhnegbjoncieaaGreatDoor
namespace Mem
open Go.RowKit
section
variable {P:Program} {ops:Array Oper} {md:Region.Mode} {Q:Exit→Act→World→Prop} {S:World→Prop}
theorem ev_tmp (l:List Value) (d:List Deferred) (t:Nat):(⟨l.toArray,d⟩:Act).eval (.tmp t)=l.getD t undef:=by simp [Act.eval]
theorem ev_zero (v:Value) (l:List Value) (d:List Deferred):(⟨(v::l).toArray,d⟩:Act).eval (.tmp 0)=v:=by simp [Act.eval]
theorem ev_none (a:Act):(#[]:Array Operand).map a.eval=#[]:=Array.map_empty
theorem ev_const (a:Act) (v:Value):a.eval (.const v)=v:=rfl
theorem ev_a {a:Act} {x:Operand} {v:Value} (h:a.eval x=v:=by first | (with_reducible exact Mem.ev_const _ _) | (with_reducible exact Mem.ev_zero _ _ _) | (with_reducible (apply Eq.trans (Mem.ev_tmp _ _ _));simp only [List.getD_cons_succ,List.getD_cons_zero] <;> rfl)):a.eval x=v:=h
theorem wpList_bin {P:Program} {ops:Array Oper} {rest:List Oper} {o:Oper} {a:Act} {w:World} {Q:Exit→Act→World→Prop} (hw:Region.wanted o (yielded ops a.tmps)=true) (op:BinOp) (t t2:TypeId) (x y:Operand) (vx vy v:Value)
 (hop:o.op=.binOp op t x y t2) (hx:a.eval x=vx) (hy:a.eval y=vy) (hv:∀ w',(do eqGuard op t x y vx vy;binOp op t vx vy:Sem Value).run P w'=.ok v w') (h:wpList P ops Q rest (a.put o.dst v) w):wpList P ops Q (o::rest) a w:=by
 unfold wpList
 rw [if_pos hw]
 left
 unfold Oper.wp
 have:(execOp a.eval o).run P w=.ok (.value v) w:=by
  have:=hv w
  simp only [execOp,hop,hx,hy]
  rw [Sem.run_bind,this];rfl
 rw [this]
 exact h
inductive Plan where
 | done
 | take (i:Nat) (r:Plan)
 | sole (i:Nat) (r:Plan)
 | two (i j:Nat) (r s:Plan)
 | three (i j k:Nat) (r s t:Plan)
 | narrow (r:Plan)   -- from here on a narrower class of worlds
def planB (md:Region.Mode) (ops:Array Oper):Plan→Nat→Array Bool→Bool
 | .done,_,listed=>(Region.ready md ops listed).isEmpty
 | .take i r,n+1,listed=>(Region.ready md ops listed).contains i && Region.free md ops listed i && planB md ops r n (listed.setIfInBounds i true)
 | .sole i r,n+1,listed=>decide (Region.ready md ops listed=[i]) && planB md ops r n (listed.setIfInBounds i true)
 | .two i j r s,n+1,listed=>decide (Region.ready md ops listed=[i,j]) && planB md ops r n (listed.setIfInBounds i true) && planB md ops s n (listed.setIfInBounds j true)
 | .three i j k r s t,n+1,listed=>decide (Region.ready md ops listed=[i,j,k]) && planB md ops r n (listed.setIfInBounds i true) && planB md ops s n (listed.setIfInBounds j true) && planB md ops t n (listed.setIfInBounds k true)
 | .narrow r,n,listed=>planB md ops r n listed
 | .take ..,0,_=>false
 | .sole ..,0,_=>false
 | .two ..,0,_=>false
 | .three ..,0,_=>false
def wpPlan (P:Program) (ops:Array Oper) (Q:Exit→Act→World→Prop):(World→Prop)→Plan→Act→World→Prop
 | _,.done,a,w=>Q .normal a w
 | S,.narrow r,a,w=>∃ S',(S' w∧∀ x,S' x→S x)∧wpPlan P ops Q S' r a w
 | S,.take i r,a,w=>∃ o,ops[i]?=some o ∧
  ((Region.wanted o (yielded ops a.tmps)=false∧wpPlan P ops Q S r (a.put o.dst undef) w) ∨
   (Region.wanted o (yielded ops a.tmps)=true∧∃ v,(∀ w',S w'→(execOp a.eval o).run P w'=.ok (.value v) w')∧wpPlan P ops Q S r (a.put o.dst v) w))
 | S,.sole i r,a,w=>wpOp P ops Q i (fun a' w'=>S w'∧wpPlan P ops Q S r a' w') a w
 | S,.two i j r s,a,w=>wpOp P ops Q i (fun a' w'=>S w'∧wpPlan P ops Q S r a' w') a w∧wpOp P ops Q j (fun a' w'=>S w'∧wpPlan P ops Q S s a' w') a w
 | S,.three i j k r s t,a,w=>wpOp P ops Q i (fun a' w'=>S w'∧wpPlan P ops Q S r a' w') a w∧wpOp P ops Q j (fun a' w'=>S w'∧wpPlan P ops Q S s a' w') a w∧wpOp P ops Q k (fun a' w'=>S w'∧wpPlan P ops Q S t a' w') a w
theorem wpAnyH_narrow {S S':World→Prop} (hle:∀ x,S' x→S x):∀ (n:Nat) (listed:Array Bool) (a:Act) (w:World),wpAnyH P md ops Q S' n listed a w→wpAnyH P md ops Q S n listed a w
 | 0,_,_,_,h=>h
 | n+1,_,_,_,h=>⟨h.1,fun i hi=>wpOp_mono (fun a' w' h'=>⟨hle _ h'.1,wpAnyH_narrow hle n _ a' w' h'.2⟩) (h.2 i hi)⟩
theorem wpAnyH_of_plan (hs:Region.noSelect ops=true) (hQ:∀ c (a:Act) d v w,Q (.panic c) (a.put d v) w→Q (.panic c) a w) :
 ∀ (l:Plan) (S:World→Prop) (n:Nat) (listed:Array Bool) (a:Act) (w:World),planB md ops l n listed=true→S w→wpPlan P ops Q S l a w→wpAnyH P md ops Q S n listed a w
 | .narrow r,S,n,listed,a,w,hB,_,h=>by
  obtain ⟨S',⟨h1,h2⟩,h3⟩:=h
  exact wpAnyH_narrow h2 n listed a w (wpAnyH_of_plan hs hQ r S' n listed a w (by cases n <;> simpa [planB] using hB) h1 h3)
 | .done,S,n,listed,a,w,hB,_,h=>wpAnyH_done (by cases n <;> simpa [planB] using hB) h _
 | .take i r,S,n+1,listed,a,w,hB,hS,h=>by
  simp only [planB,Bool.and_eq_true] at hB
  obtain ⟨⟨hr,hf⟩,hB'⟩:=hB
  obtain ⟨o,ho,h⟩:=h
  rcases h with ⟨hw,h⟩ | ⟨hw,v,hv,h⟩
  ·exact wpAnyH_take ho hs hf hr (fun c a w=>hQ c a _ _ w) (.inr ⟨hw,rfl⟩) hS (wpAnyH_of_plan hs hQ r S n _ _ w hB' hS h)
  ·exact wpAnyH_take ho hs hf hr (fun c a w=>hQ c a _ _ w) (.inl ⟨hw,hv⟩) hS (wpAnyH_of_plan hs hQ r S n _ _ w hB' hS h)
 | .sole i r,S,n+1,listed,a,w,hB,hS,h=>by
  simp only [planB,Bool.and_eq_true,decide_eq_true_eq] at hB
  obtain ⟨hr,hB'⟩:=hB
  refine wpAnyH_all hr (by simp) fun j hj=>?_
  obtain rfl:j=i:=by simpa using hj
  exact wpOp_mono (fun a' w' h'=>⟨h'.1,wpAnyH_of_plan hs hQ r S n _ _ w' hB' h'.1 h'.2⟩) h
 | .two i j r s,S,n+1,listed,a,w,hB,hS,h=>by
  simp only [planB,Bool.and_eq_true,decide_eq_true_eq] at hB
  obtain ⟨⟨hr,hB1⟩,hB2⟩:=hB
  refine wpAnyH_all hr (by simp) fun x hx=>?_
  rcases List.mem_cons.1 hx with rfl | hx
  ·exact wpOp_mono (fun a' w' h'=>⟨h'.1,wpAnyH_of_plan hs hQ r S n _ _ w' hB1 h'.1 h'.2⟩) h.1
  ·obtain rfl:x=j:=by simpa using hx
   exact wpOp_mono (fun a' w' h'=>⟨h'.1,wpAnyH_of_plan hs hQ s S n _ _ w' hB2 h'.1 h'.2⟩) h.2
 | .three i j k r s t,S,n+1,listed,a,w,hB,hS,h=>by
  simp only [planB,Bool.and_eq_true,decide_eq_true_eq] at hB
  obtain ⟨⟨⟨hr,hB1⟩,hB2⟩,hB3⟩:=hB
  refine wpAnyH_all hr (by simp) fun x hx=>?_
  rcases List.mem_cons.1 hx with rfl | hx
  ·exact wpOp_mono (fun a' w' h'=>⟨h'.1,wpAnyH_of_plan hs hQ r S n _ _ w' hB1 h'.1 h'.2⟩) h.1
  ·rcases List.mem_cons.1 hx with rfl | hx
   ·exact wpOp_mono (fun a' w' h'=>⟨h'.1,wpAnyH_of_plan hs hQ s S n _ _ w' hB2 h'.1 h'.2⟩) h.2.1
   ·obtain rfl:x=k:=by simpa using hx
    exact wpOp_mono (fun a' w' h'=>⟨h'.1,wpAnyH_of_plan hs hQ t S n _ _ w' hB3 h'.1 h'.2⟩) h.2.2
 | .take ..,_,0,_,_,_,hB,_,_=>by simp [planB] at hB
 | .sole ..,_,0,_,_,_,hB,_,_=>by simp [planB] at hB
 | .two ..,_,0,_,_,_,hB,_,_=>by simp [planB] at hB
 | .three ..,_,0,_,_,_,hB,_,_=>by simp [planB] at hB
theorem wp_region_plan_in {id:Nat} {a:Act} {w:World} (S:World→Prop) (l:Plan) (hm:P.follows .mixedOrders=true) (hs:Region.noSelect ops=true) (hB:planB .any ops l ops.size (Array.replicate ops.size false)=true) (hS:S w.drew)
 (h:wpPlan P ops (NoPanic Q) S l a w.drew):(Code.region id ops true).wp P Q a w:=
 wp_region_noPanic (wp_region_held (S:=S) hm (wpAnyH_of_plan (md:=.any) hs (fun _ _ _ _ _ h=>h) l _ _ _ a _ hB hS h))
structure But (b:Nat) (w w':World):Prop where
 size:w.heap.size≤w'.heap.size
 block:∀ k,k < w.heap.size→k≠b→w'.heap[k]?=w.heap[k]?
theorem But.refl (b:Nat) (w:World):But b w w:=⟨Nat.le_refl _,fun _ _ _=>rfl⟩
theorem But.below {b:Nat} {w w' w2:World} (h:But b w w') (hb:Below w'.heap.size w' w2):But b w w2:=
 ⟨Nat.le_trans h.size hb.size,fun k hk hne=>(hb.block k (Nat.lt_of_lt_of_le hk h.size)).trans (h.block k hk hne)⟩
theorem But.row {b:Nat} {w w' w2:World} (h:But b w w') (hs:w'.heap.size≤w2.heap.size) (o:∀ k,k≠b→w2.heap[k]?=w'.heap[k]?):But b w w2:=
 ⟨Nat.le_trans h.size hs,fun k hk hne=>(o k hne).trans (h.block k hk hne)⟩
theorem At.but {b c:Nat} {w w':World} {C:Array Value} {t:TypeId} (h:At w c C t) (hb:But b w w') (hne:c≠b):At w' c C t:=by
 have:=h.lt
 unfold At at *
 rw [hb.block c this hne];exact h
variable {i j k:Nat} {r s t:Plan} {a:Act} {w:World} {o:Oper}
theorem plan_nil (h:Q .normal a w):wpPlan P ops (NoPanic Q) S .done a w:=h
theorem plan_skip (ho:ops.toList[i]?=some o) (hw:Region.wanted o (yielded ops a.tmps)=false) (h:wpPlan P ops Q S r (a.put o.dst undef) w):wpPlan P ops Q S (.take i r) a w:=
 ⟨o,by rw [←Array.getElem?_toList];exact ho,.inl ⟨hw,h⟩⟩
theorem plan_take (v:Value) (ho:ops.toList[i]?=some o) (hw:Region.wanted o (yielded ops a.tmps)=true) (hv:∀ w',S w'→(execOp a.eval o).run P w'=.ok (.value v) w') (h:wpPlan P ops Q S r (a.put o.dst v) w) :
 wpPlan P ops Q S (.take i r) a w:=
 ⟨o,by rw [←Array.getElem?_toList];exact ho,.inr ⟨hw,v,hv,h⟩⟩
theorem wpOp_at {K:Act→World→Prop} (ho:ops.toList[i]?=some o) (hw:Region.wanted o (yielded ops a.tmps)=true) (h:o.wp P a w K Q):wpOp P ops Q i K a w:=by
 have ho':ops[i]?=some o:=by rw [←Array.getElem?_toList];exact ho
 unfold wpOp
 simp only [ho',hw,if_true]
 exact .inl h
theorem plan_two (h1:wpPlan P ops Q S (.sole i r) a w) (h2:wpPlan P ops Q S (.sole j s) a w):wpPlan P ops Q S (.two i j r s) a w:=⟨h1,h2⟩
theorem plan_three (h1:wpPlan P ops Q S (.sole i r) a w) (h2:wpPlan P ops Q S (.sole j s) a w) (h3:wpPlan P ops Q S (.sole k t) a w):wpPlan P ops Q S (.three i j k r s t) a w:=⟨h1,h2,h3⟩
theorem plan_move (x:Operand) (v:Value) (ho:ops.toList[i]?=some o) (hw:Region.wanted o (yielded ops a.tmps)=true) (hop:o.op=.move x∨o.op=.assign x) (hx:a.eval x=v) (h:wpPlan P ops Q S r (a.put o.dst v) w) :
 wpPlan P ops Q S (.take i r) a w:=
 plan_take v ho hw (fun w' _=>by rcases hop with hop | hop <;> simp [execOp,hop,hx]) h
theorem plan_pick (c x y:Operand) (b:Bool) (v:Value) (ho:ops.toList[i]?=some o) (hw:Region.wanted o (yielded ops a.tmps)=true) (hop:o.op=.pick c x y) (hc:a.eval c=.bool b) (hx:(if b then a.eval x else a.eval y)=v) (h:wpPlan P ops Q S r (a.put o.dst v) w) :
 wpPlan P ops Q S (.take i r) a w:=
 plan_take v ho hw (fun w' _=>by simp [execOp,hop,hc,asBool,←hx]) h
theorem plan_pick_t (c x y:Operand) (v:Value) (ho:ops.toList[i]?=some o) (hw:Region.wanted o (yielded ops a.tmps)=true) (hop:o.op=.pick c x y) (hc:a.eval c=.bool true) (hx:a.eval x=v) (h:wpPlan P ops Q S r (a.put o.dst v) w) :
 wpPlan P ops Q S (.take i r) a w:=plan_pick c x y true v ho hw hop hc hx h
theorem plan_pick_f (c x y:Operand) (v:Value) (ho:ops.toList[i]?=some o) (hw:Region.wanted o (yielded ops a.tmps)=true) (hop:o.op=.pick c x y) (hc:a.eval c=.bool false) (hx:a.eval y=v) (h:wpPlan P ops Q S r (a.put o.dst v) w) :
 wpPlan P ops Q S (.take i r) a w:=plan_pick c x y false v ho hw hop hc hx h
theorem pm1 {x:Operand} {v:Value} (h:wpPlan P ops Q S r (a.put o.dst v) w) (ho:ops.toList[i]?=some o:=by rfl) (hw:Region.wanted o (yielded ops a.tmps)=true:=by rfl) (hop:o.op=.move x:=by rfl) (hx:a.eval x=v:=by first | (with_reducible exact Mem.ev_const _ _) | (with_reducible exact Mem.ev_zero _ _ _) | (with_reducible (apply Eq.trans (Mem.ev_tmp _ _ _));simp only [List.getD_cons_succ,List.getD_cons_zero] <;> rfl)):wpPlan P ops Q S (.take i r) a w:=plan_move x v ho hw (.inl hop) hx h
theorem pm2 {x:Operand} {v:Value} (h:wpPlan P ops Q S r (a.put o.dst v) w) (ho:ops.toList[i]?=some o:=by rfl) (hw:Region.wanted o (yielded ops a.tmps)=true:=by rfl) (hop:o.op=.assign x:=by rfl) (hx:a.eval x=v:=by first | (with_reducible exact Mem.ev_const _ _) | (with_reducible exact Mem.ev_zero _ _ _) | (with_reducible (apply Eq.trans (Mem.ev_tmp _ _ _));simp only [List.getD_cons_succ,List.getD_cons_zero] <;> rfl)):wpPlan P ops Q S (.take i r) a w:=plan_move x v ho hw (.inr hop) hx h
theorem pt {c x y:Operand} {v:Value} (h:wpPlan P ops Q S r (a.put o.dst v) w) (ho:ops.toList[i]?=some o:=by rfl) (hw:Region.wanted o (yielded ops a.tmps)=true:=by rfl) (hop:o.op=.pick c x y:=by rfl) (hc:a.eval c=.bool true:=by first | (with_reducible exact Mem.ev_const _ _) | (with_reducible exact Mem.ev_zero _ _ _) | (with_reducible (apply Eq.trans (Mem.ev_tmp _ _ _));simp only [List.getD_cons_succ,List.getD_cons_zero] <;> rfl)) (hx:a.eval x=v:=by first | (with_reducible exact Mem.ev_const _ _) | (with_reducible exact Mem.ev_zero _ _ _) | (with_reducible (apply Eq.trans (Mem.ev_tmp _ _ _));simp only [List.getD_cons_succ,List.getD_cons_zero] <;> rfl)):wpPlan P ops Q S (.take i r) a w:=plan_pick_t c x y v ho hw hop hc hx h
theorem pf {c x y:Operand} {v:Value} (h:wpPlan P ops Q S r (a.put o.dst v) w) (ho:ops.toList[i]?=some o:=by rfl) (hw:Region.wanted o (yielded ops a.tmps)=true:=by rfl) (hop:o.op=.pick c x y:=by rfl) (hc:a.eval c=.bool false:=by first | (with_reducible exact Mem.ev_const _ _) | (with_reducible exact Mem.ev_zero _ _ _) | (with_reducible (apply Eq.trans (Mem.ev_tmp _ _ _));simp only [List.getD_cons_succ,List.getD_cons_zero] <;> rfl)) (hx:a.eval y=v:=by first | (with_reducible exact Mem.ev_const _ _) | (with_reducible exact Mem.ev_zero _ _ _) | (with_reducible (apply Eq.trans (Mem.ev_tmp _ _ _));simp only [List.getD_cons_succ,List.getD_cons_zero] <;> rfl)):wpPlan P ops Q S (.take i r) a w:=plan_pick_f c x y v ho hw hop hc hx h
theorem pa {α:Type _} (l:List α) (i:Nat) (a:α):l.toArray.setIfInBounds i a=(l.set i a).toArray:=List.setIfInBounds_toArray ..
theorem zp (l:List Value) (d:List Deferred) (i:Nat) (v:Value):(⟨l.toArray,d⟩:Act).put (some i) v=⟨(l.set i v).toArray,d⟩:=by simp [Act.put]
theorem pb {α:Type _} (x:α) (l:List α) (b:α):(x::l).set 0 b=b::l:=rfl
theorem pc {α:Type _} (x:α) (l:List α) (n:Nat) (b:α):(x::l).set (n+1) b=x::l.set n b:=rfl
theorem plan_bin (op:BinOp) (t t2:TypeId) (x y:Operand) (vx vy v:Value) (ho:ops.toList[i]?=some o) (hw:Region.wanted o (yielded ops a.tmps)=true) (hop:o.op=.binOp op t x y t2) (hx:a.eval x=vx) (hy:a.eval y=vy)
 (hv:∀ w',(do eqGuard op t x y vx vy;binOp op t vx vy:Sem Value).run P w'=.ok v w') (h:wpPlan P ops Q S r (a.put o.dst v) w) :
 wpPlan P ops Q S (.take i r) a w:=
 plan_take v ho hw (fun w' _=>by
  have:=hv w'
  simp only [execOp,hop,hx,hy]
  rw [Sem.run_bind,this];rfl) h
theorem plan_conv (t1 t2:TypeId) (x:Operand) (vx v:Value) (ho:ops.toList[i]?=some o) (hw:Region.wanted o (yielded ops a.tmps)=true) (hop:o.op=.convert t1 t2 x) (hx:a.eval x=vx)
 (hv:∀ w',(convert t1 t2 vx).run P w'=.ok v w') (h:wpPlan P ops Q S r (a.put o.dst v) w):wpPlan P ops Q S (.take i r) a w:=
 plan_take v ho hw (fun w' _=>by
  have:=hv w'
  simp only [execOp,hop,hx]
  rw [Sem.run_bind,this];rfl) h
theorem plan_build (ty:TypeId) (parts:Array (Nat × Operand)) (ps:Array (Nat × Value)) (v:Value) (ho:ops.toList[i]?=some o) (hw:Region.wanted o (yielded ops a.tmps)=true) (hop:o.op=.build ty parts) (hps:(parts.map fun (i,x)=>(i,a.eval x))=ps)
 (hv:∀ w',(Instr.build ty ps).run P w'=.ok v w') (h:wpPlan P ops Q S r (a.put o.dst v) w):wpPlan P ops Q S (.take i r) a w:=
 plan_take v ho hw (fun w' _=>by
  have:=hv w'
  simp only [execOp,hop,hps]
  rw [Sem.run_bind,this];rfl) h
theorem plan_cut (ty:TypeId) (x:Operand) (n:Nat) (elem:TypeId) (b c:Nat) (ho:ops.toList[i]?=some o) (hw:Region.wanted o (yielded ops a.tmps)=true) (hop:o.op=.slice ty x none none none) (hx:a.eval x=.pointer (some ⟨b,c,none⟩))
 (hu:P.underlying ty=some (.array n elem)) (hs:(P.info? elem).map (·.size)=some 1) (h:wpPlan P ops Q S r (a.put o.dst (.slice (some ⟨b,c,none⟩) n n)) w):wpPlan P ops Q S (.take i r) a w:=
 plan_take _ ho hw (fun w' _=>by
  cases hq:P.info? elem with
  | none=>simp [hq] at hs
  | some q=>
   have hs1:q.size=1:=by simpa [hq] using hs
   have hat:(Instr.sliceAt ty (.pointer (some ⟨b,c,none⟩)) none none none).run P w'=.ok (.slice (some ⟨b,c,none⟩) n n) w':=by
    simp [Instr.sliceAt,Instr.sureAddr,Instr.sliceBounds,Sem.run_bind,run_underlying hu,sizeOf,typeInfo,hq,Addr.add_mid]
   unfold execOp
   simp only [hop,hx,Option.map_none,Sem.run_bind,hat,Result.andThen_ok,Sem.run_pure]) h
theorem plan_row (ty:TypeId) (x:Operand) (b:Nat) (d:TypeDesc) (C:Array Value) (t:TypeId) (ho:ops.toList[i]?=some o) (hw:Region.wanted o (yielded ops a.tmps)=true) (hop:o.op=.load ty x) (hx:a.eval x=.pointer (some ⟨b,0,none⟩))
 (hC:∀ w',S w'→At w' b C t) (hu:P.underlying ty=some d) (hd:d.isRow=true) (hi:(P.info? ty).map (·.size)=some C.size) (h:wpPlan P ops Q S r (a.put o.dst (.agg C)) w) :
 wpPlan P ops Q S (.take i r) a w:=
 plan_take _ ho hw (fun w' hw'=>by
  have hr:=run_loadAt_mid (P:=P) w' b 0 ty (C.extract 0 (0+C.size)).toList d ((hC w' hw').range 0 C.size) hu hd (by rw [hi];simp)
  unfold execOp
  simp only [hop,hx,Sem.run_bind,hr,Result.andThen_ok,Sem.run_pure]
  simp) h
theorem plan_len (xs:Array Operand) (ats:Array TypeId) (x:Operand) (s:Option Addr) (n c:Nat) (ho:ops.toList[i]?=some o) (hw:Region.wanted o (yielded ops a.tmps)=true) (hop:o.op=.call { callee:=.builtin .len,args:=xs,argTypes:=ats }) (hxs:xs=#[x]) (hx:a.eval x=.slice s n c)
 (hr:∀ w':World,(Builtin.len_ ats o.type #[.slice s n c]).run P w'=.ok (.int .i64 n) w')
 (h:wpPlan P ops Q S r (a.put o.dst (.int .i64 n)) w):wpPlan P ops Q S (.take i r) a w:=
 plan_take _ ho hw (fun w' _=>by
  subst hxs
  obtain ⟨dst,op,type,pos,after,guard⟩:=o
  simp only at hop
  subst hop
  rw [BigFrame.execOp_builtin]
  simp [hx,BigFrame.builtin_len,hr w']) h
def enters (P:Program) (f:FuncId):Bool:=match P.funcs[f]? with
 | some fn => !(fn.name == "runtime.NumGoroutine") && !fn.body.isNone
 | none=>false
theorem run_enters {f:FuncId} (h:enters P f=true) (vs:Array Value) (w:World):(callFunc f vs).run P w=.ok (.enter f vs) w:=by
 unfold enters at h
 split at h
 ·rename_i fn hf
  simp only [Bool.and_eq_true,Bool.not_eq_true'] at h
  have hn : ¬ fn.name = "runtime.NumGoroutine" := fun e => by have := h.1; rw [e] at this; exact absurd this (by decide)
  have hb:¬ fn.body=none:=fun e=>by have:=h.2;rw [e] at this;cases this
  simp [callFunc,Sem.run_bind,run_program,hf,hn,hb]
 ·cases h
theorem plan_call (f:FuncId) (xs:Array Operand) (ats:Array TypeId) (vs:Array Value) (hf:enters P f=true) (ho:ops.toList[i]?=some o) (hw:Region.wanted o (yielded ops a.tmps)=true) (hop:o.op=.call { callee:=.value (.func f),args:=xs,argTypes:=ats }) (hxs:xs.map a.eval=vs)
 (h:Calls P f vs w fun e w'=>∃ v,e=.returned v∧S w'∧wpPlan P ops Q S r (a.put o.dst v) w'):wpPlan P ops Q S (.sole i r) a w:=by
 refine wpOp_at ho hw ?_
 obtain ⟨dst,op,type,pos,after,guard⟩:=o
 simp only at hop
 subst hop
 unfold Oper.wp
 rw [execOp_call_go]
 have:(callFunc f (#[]++xs.map a.eval++#[])).run P w=.ok (.enter f vs) w:=by
  rw [hxs];simp [run_enters hf]
 rw [this]
 exact h.mono fun e w' ⟨v,he,hS,hp⟩=>by subst he;exact ⟨hS,hp⟩
theorem plan_sole_skip (ho:ops.toList[i]?=some o) (hw:Region.wanted o (yielded ops a.tmps)=false) (hS:S w) (h:wpPlan P ops Q S r (a.put o.dst undef) w):wpPlan P ops Q S (.sole i r) a w:=by
 have ho':ops[i]?=some o:=by rw [←Array.getElem?_toList];exact ho
 unfold wpPlan wpOp
 simp only [ho',hw,Bool.false_eq_true,if_false]
 exact ⟨hS,h⟩
theorem plan_alloc (ty:TypeId) (Z:Array Value) (ho:ops.toList[i]?=some o) (hw:Region.wanted o (yielded ops a.tmps)=true) (hop:o.op=.alloc ty) (hr:∀ w:World,(Instr.alloc ty true (.tuple #[])).run P w=.ok (.pointer (some ⟨w.heap.size,0,none⟩)) (w.alloc (.cells Z ty)))
 (hS:S (w.alloc (.cells Z ty))) (h:wpPlan P ops Q S r (a.put o.dst (.pointer (some ⟨w.heap.size,0,none⟩))) (w.alloc (.cells Z ty))):wpPlan P ops Q S (.sole i r) a w:=by
 refine wpOp_at ho hw ?_
 unfold Oper.wp execOp
 simp only [hop,Sem.run_bind,hr,Result.andThen_ok,Sem.run_pure]
 exact ⟨hS,h⟩
theorem plan_store (ty:TypeId) (x y:Operand) (b:Nat) (D C:Array Value) (t:TypeId) (ho:ops.toList[i]?=some o) (hw:Region.wanted o (yielded ops a.tmps)=true) (hop:o.op=.store ty x y) (hdst:o.dst=none)
 (hx:a.eval x=.pointer (some ⟨b,0,none⟩)) (hy:a.eval y=.agg D) (hi:(P.info? ty).map (·.size)=some D.size) (hC:At w b C t) (hn:D.size=C.size) (h1:D.all (·.oneCell')=true) (hS:S (w.setRow b D))
 (h:wpPlan P ops Q S r a (w.setRow b D)):wpPlan P ops Q S (.sole i r) a w:=by
 refine wpOp_at ho hw ?_
 have hput:a.put o.dst undef=a:=by rw [hdst];rfl
 refine wp_store_mid ty x y hop b 0 D hx hy (fun j hj=>?_) hi h1 ?_
 ·rw [hC.cell,hC.free]
  exact ⟨by simp;omega,rfl⟩
 ·rw [setCells_row _ _ _ _ _ hC (by simpa using Nat.le_of_eq hn),hput,splice_all C D hn];exact ⟨hS,h⟩
theorem plan_slice (t e:TypeId) (len:Nat) (parts:Array (Nat × Operand)) (cells:Array Value) (ho:ops.toList[i]?=some o) (hw:Region.wanted o (yielded ops a.tmps)=true) (hop:o.op=.buildSlice t len parts) (hu:P.underlying t=some (.slice e))
 (hf:P.builtSlice e len (parts.map fun (i,x)=>(i,a.eval x)).toList=some cells) (hS:S (w.alloc (.cells cells e)))
 (h:wpPlan P ops Q S r (a.put o.dst (.slice (some ⟨w.heap.size,0,none⟩) len len)) (w.alloc (.cells cells e))):wpPlan P ops Q S (.sole i r) a w:=by
 refine wpOp_at ho hw ?_
 unfold Program.builtSlice at hf
 cases hie:P.info? e with
 | none=>simp [hie] at hf
 | some ie=>
  simp only [hie] at hf
  cases hz:ie.zero with
  | none=>simp [hz] at hf
  | some z=>
   simp only [hz] at hf
   by_cases hc:len*ie.size > 2 ^ 24∨len*ie.size=0
   ·simp [hc] at hf
   ·rw [if_neg hc] at hf
    exact wp_buildSlice t e len parts hop cells ie z hu hie hz (fun h'=>hc (Or.inl h')) (fun h'=>hc (Or.inr h')) hf ⟨hS,h⟩
end
end Mem
theorem ze {a:Act} {x:Operand} {v:Value} (h:a.eval x=v:=by first | (with_reducible exact Mem.ev_const _ _) | (with_reducible exact Mem.ev_zero _ _ _) | (with_reducible (apply Eq.trans (Mem.ev_tmp _ _ _));simp only [List.getD_cons_succ,List.getD_cons_zero] <;> rfl)):a.eval x=v:=h
end Go.Proofs.YtlhnegbjoncieaaGreatDoor
namespace Go.Proofs.YtlhnegbjoncieaaGreatDoor
namespace Mem
open Go.RowKit
theorem all_range_int:∀ (xs ys:List Int),xs.length=ys.length→((List.range xs.length).all fun i=>xs.getD i 0 == ys.getD i 0)=(xs == ys)
 | [],[],_=>rfl
 | x::xs,y::ys,h=>by
  have ih:=all_range_int xs ys (by simpa using h)
  rw [List.length_cons,List.range_succ_eq_map,List.all_cons,List.all_map]
  simp only [List.getD_cons_zero,Function.comp_def,List.getD_cons_succ,ih]
  simp [List.cons_beq_cons]
 | [],_::_,h=>by simp at h
 | _::_,[],h=>by simp at h
theorem run_equalIn_ints {P:Program} (w:World) (d:Nat) (t e:TypeId) (k:IntKind) (n:Nat) (ht:P.underlying t=some (.array n e)) (he:P.underlying e=some (.int k)) (hsz:∀ w,(sizeOf e).run P w=.ok 1 w)
 (xs ys:List Int) (hx:xs.length=n) (hy:ys.length=n) :
 (Op.equalIn (d+2) t (.agg (xs.map (Value.int k)).toArray) (.agg (ys.map (Value.int k)).toArray)).run P w=.ok (xs == ys) w:=by
 rw [←all_range_int xs ys (hx.trans hy.symm),hx,List.range_eq_range',Op.equalIn]
 simp only [Sem.run_bind,run_underlying ht,Result.andThen_ok,hsz,Std.Legacy.Range.forIn_eq_forIn_range',Std.Legacy.Range.size,Nat.sub_zero,Nat.add_sub_cancel,Nat.div_one]
 have hl:∀ i∈List.range' 0 n 1,i < n:=fun i hi=>by simpa using (List.mem_range'_1.1 hi).2
 generalize List.range' 0 n 1=l at hl ⊢
 induction l with
 | nil=>simp
 | cons i l ih=>
  have hi:i < n:=hl i (by simp)
  have px:(part e (xs.map (Value.int k)).toArray (i*1)).run P w=.ok (.int k (xs.getD i 0)) w:=by
   simp [part,isAgg,run_underlying he,List.getD,List.getElem?_eq_getElem (show i < xs.length by omega)]
  have py:(part e (ys.map (Value.int k)).toArray (i*1)).run P w=.ok (.int k (ys.getD i 0)) w:=by
   simp [part,isAgg,run_underlying he,List.getD,List.getElem?_eq_getElem (show i < ys.length by omega)]
  have pe:(Op.equalIn (d+1) e (.int k (xs.getD i 0)) (.int k (ys.getD i 0))).run P w=.ok (xs.getD i 0 == ys.getD i 0) w:=by
   rw [run_equalIn_int w d e k k _ _ he]
  simp only [List.forIn_cons,Sem.run_bind,px,py,pe,Result.andThen_ok,List.all_cons]
  cases hb:(xs.getD i 0 == ys.getD i 0)
  ·simp
  ·simp only [Bool.not_true,Bool.false_eq_true,if_false,Sem.run_pure,Result.andThen_ok,Bool.true_and]
   exact ih fun j hj=>hl j (by simp [hj])
end Mem
end Go.Proofs.YtlhnegbjoncieaaGreatDoor
namespace Go.Proofs.YtlhnegbjoncieaaGreatDoor
namespace Sha
open Go.RowKit Mem
theorem o_ieq {P:Program} (q:Int) (t t2:TypeId) (x y:Operand) (w:World):(do eqGuard .eql t x y (.int .i64 q) (.int .i64 q);binOp .eql t2 (.int .i64 q) (.int .i64 q):Sem Value).run P w=.ok (.bool true) w:=by go_simp
end Sha
end Go.Proofs.YtlhnegbjoncieaaGreatDoor
namespace Go.Proofs.YtlhnegbjoncieaaGreatDoor
namespace Mem
open Go.RowKit
structure Two (d:Nat) (X Y:World):Prop where
 os:Y.os=X.os
 tape:Y.tape=X.tape
 output:Y.output=X.output
 size:X.heap.size≤Y.heap.size
 same:∀ k,k < X.heap.size→k≠d→k≠d+1→Y.heap[k]?=X.heap[k]?
structure Rnd (d n0:Nat) (X Y:World):Prop where
 low:Below n0 X Y
 high:∀ k,d≤k→k < X.heap.size→Y.heap[k]?=X.heap[k]?
theorem Two.put {d j:Nat} {W:World} {o o':Obj} (hj:j=d∨j=d+1) (h:W.heap[j]?=some o):Two d W (W.putObj j o'):=by
 have hlt:=(Array.getElem?_eq_some_iff.1 h).1
 exact ⟨rfl,rfl,rfl,by simp [World.putObj],fun k _ h1 h2=>World.putObj_heap_other (by omega)⟩
theorem Two.below {d n0:Nat} {X Y:World} (h:Two d X Y) (hd:n0≤d) (hs:n0≤X.heap.size):Below n0 X Y:=
 ⟨h.os,h.tape,h.output,h.size,fun k hk=>h.same k (by omega) (by omega) (by omega)⟩
theorem Rnd.trans {d n0:Nat} {X Y Z:World} (h:Rnd d n0 X Y) (k:Rnd d n0 Y Z):Rnd d n0 X Z:=
 ⟨h.low.trans k.low,fun j h1 h2=>(k.high j h1 (Nat.lt_of_lt_of_le h2 h.low.size)).trans (h.high j h1 h2)⟩
def Gives (F:Fence) (n:Nat) (P:Program) (gf:Nat) (bd:Array Value) (N:Nat) (xs:Nat→Array Value) (n0:Nat) (w0:World):Prop:=
 ∀ (l:Nat) (J Jx:Nat→World→Prop) (W:World),Below n0 w0 W →
  (∀ c W1,c < N→J c W1→YieldAt F (n - 1) P l (xs c) W1 fun e W'=>(e=.returned (.bool true)∧J (c+1) W'∧Below n0 W1 W')∨(e=.returned (.bool false)∧Jx c W')) →
  J 0 W→CallsIn F n P gf (bd++#[.func (.yield l) #[] #[]]) W fun e W'=>(∃ v,e=.returned v)∧(J N W'∨∃ c,c < N∧Jx c W')
def rndPost (d n0:Nat) (I Ix:Nat→World→Prop) (c:Nat) (W:World):Exit→Act→World→Prop
 | .normal,_,W'=>Rnd d n0 W W'∧I (c+1) W'
 | .ret,_,W'=>Rnd d n0 W W'∧Ix c W'
 | _,_,_=>False
variable {F:Fence} {n:Nat} {P:Program}
theorem wpIn_range_bound {g:Operand} {ps:Array Tmp} {assign body:Code} {Q:Exit→Act→World→Prop} {a:Act} {w:World} (hro:F.round=none) (h1:1≤n) {gf:Nat} {bd:Array Value} (hg:a.eval g=.func (.func gf) bd #[]) (hFg:F.fn gf)
 (eg:∀ args w,(callFunc gf args).run P w=.ok (.enter gf args) w) {N:Nat} {xs:Nat→Array Value} {n0:Nat} {w0:World} (hseq:Gives F (n - 1) P gf bd N xs n0 w0) (hb0:Below n0 w0 w) (hn0:n0≤w.heap.size) (hps:∀ c,(xs c).size=ps.size)
 (I Ix:Nat→World→Prop) (A:Nat→Act→World→Prop) (hI:∀ c X Y,I c X→Two w.heap.size X Y→I c Y) (hIx:∀ c X Y,Ix c X→Two w.heap.size X Y→Ix c Y) (hA:∀ c a' X Y,A c a' X→Two w.heap.size X Y→A c a' Y) (h0:I 0 w)
 (hassign:∀ (l c:Nat) (W:World) (K:Act→World→Prop),c < N→w.heap.size+2≤W.heap.size→I c W→(∀ a' W',Rnd w.heap.size n0 W W'→I c W'→A c a' W'→K a' W') →
  assign.wpIn (F.inRound l) (n - 1 - 1) P (Exit.then K (fun _ _ _=>False)) { tmps:=(ps.zip (xs c)).foldl (fun t (p,v)=>t.setIfInBounds p v) a.tmps,defers:=[] } W)
 (hbody:∀ (l c:Nat) (a':Act) (W:World),c < N→w.heap.size+2≤W.heap.size→I c W→A c a' W→body.wpIn (F.inRound l) (n - 1 - 1) P (rndPost w.heap.size n0 I Ix c W) a' W)
 (hdone:∀ W,I N W→W.heap[w.heap.size]?=some (.deferred (some []))→Q .normal { a with defers:={ target:=.collected w.heap.size,args:=#[] }::a.defers } W)
 (hstop:∀ c W,c < N→Ix c W→W.heap[w.heap.size]?=some (.deferred (some []))→Code.ret.wpIn F n P Q { a with defers:={ target:=.collected w.heap.size,args:=#[] }::a.defers } W) :
 (Code.rangeFunc g ps assign body).wpIn F n P Q a w:=by
 refine wpIn_rangeFunc fun fn hfn=>?_
 rw [hro]
 obtain ⟨d,hd⟩:∃ d,d=w.heap.size:=⟨_,rfl⟩
 obtain ⟨rec,hrec⟩:∃ rec:LoopState→Option Code→Loop,rec=fun st pe=>{ state:=st,pending:=pe,fn,tmps:=a.tmps,params:=ps,assign,body,defers:=d }:=⟨_,rfl⟩
 obtain ⟨W1,hW1⟩:∃ W1,W1=(w.alloc (.deferred (some []))).alloc (.loop (rec .ready none)):=⟨_,rfl⟩
 have hD1:W1.heap[d]?=some (.deferred (some [])):=by
  rw [hW1,hd]
  exact (Below.heap_alloc _ _ _ (by simp)).trans (World.alloc_heap_new w _)
 have hL1:W1.heap[d+1]?=some (.loop (rec .ready none)):=by
  have h:=World.alloc_heap_new (w.alloc (.deferred (some []))) (.loop (rec .ready none))
  rw [World.size_alloc,←hd] at h
  rw [hW1];exact h
 have t1:Two d w W1:=⟨by rw [hW1];rfl,by rw [hW1];rfl,by rw [hW1];rfl,by rw [hW1];simp;omega,fun k hk _ _=>by rw [hW1,Below.heap_alloc _ _ _ (by simp;omega),Below.heap_alloc _ _ _ hk]⟩
 rw [←hd] at hI hIx hA hassign hbody hdone hstop hn0
 have hb1:Below n0 w0 W1:=hb0.trans (t1.below hn0 (by omega))
 refine ⟨d+1,[{ target:=.collected d,args:=#[] }],W1,{ target:=.fn (.func gf) #[],args:=bd++#[.func (.yield (d+1)) #[] #[]] },W1,gf,bd++#[.func (.yield (d+1)) #[] #[]],W1,?_,?_,?_,?_,fun _=>h1,?_⟩
 ·rw [hW1,hrec,hd]
  exact run_enterLoop_outer _ _ _ _ _
 ·simp only [resolve,hg]
  simp [go_sem]
 ·intro f' hf'
  simp [Target.leads] at hf'
  exact hf' ▸ hFg
 ·simp [invoke,go_sem,eg]
 ·refine (hseq (d+1) (fun c W=>I c W∧W.heap[d+1]?=some (.loop (rec .ready none))∧W.heap[d]?=some (.deferred (some []))) (fun c W=>Ix c W∧W.heap[d+1]?=some (.loop (rec .done (some .ret)))∧W.heap[d]?=some (.deferred (some []))) W1 hb1 ?_
   ⟨hI 0 _ _ h0 t1,hL1,hD1⟩).mono ?_
  ·rintro c W hc ⟨hi,hl,hk⟩
   have hy:=run_yield (P:=P) (args:=xs c) hl (by rw [hrec];exact hps c)
   rw [hrec] at hy
   refine ⟨fn,_,assign,body,hy,roundIn_of_wpIn hfn (hassign (d+1) c W _ hc (Array.getElem?_eq_some_iff.1 hl).1 hi fun a' Wa r1 ia ax=>?_)⟩
   have hla:Wa.heap[d+1]?=some (.loop (rec .ready none)):=(r1.high _ (by omega) (Array.getElem?_eq_some_iff.1 hl).1).trans hl
   have hka:Wa.heap[d]?=some (.deferred (some [])):=(r1.high _ (by omega) (Array.getElem?_eq_some_iff.1 hk).1).trans hk
   refine ⟨_,run_beginRound hla (by rw [hrec]),?_⟩
   obtain ⟨Wb,hWb⟩:∃ Wb,Wb=Wa.putObj (d+1) (.loop { rec .ready none with state:=.busy }):=⟨_,rfl⟩
   have tb:Two d Wa Wb:=by rw [hWb];exact Two.put (.inr rfl) hla
   have hlb:Wb.heap[d+1]?=some (.loop (rec .busy none)):=by
    rw [hWb,World.putObj_heap_same (Array.getElem?_eq_some_iff.1 hla).1,hrec]
   have hkb:Wb.heap[d]?=some (.deferred (some [])):=by rw [hWb];exact (World.putObj_heap_other (by omega)).trans hka
   rw [←hWb]
   refine wpIn_mono (hbody (d+1) c a' Wb hc (Array.getElem?_eq_some_iff.1 hlb).1 (hI c _ _ ia tb) (hA c a' _ _ ax tb)) ?_
   have fin:∀ (jump:Option Code) (W3:World),Rnd d n0 Wb W3→∃ W4,(Instr.endRound (d+1) jump).run P W3=.ok (.bool jump.isNone) W4∧Two d W3 W4∧W4.heap[d+1]?=some (.loop (rec (if jump.isNone then .ready else .done) jump))∧W4.heap[d]?=some (.deferred (some []))∧Below n0 W W4:=by
    intro jump W3 r3
    have hl3:W3.heap[d+1]?=some (.loop (rec .busy none)):=(r3.high _ (by omega) (Array.getElem?_eq_some_iff.1 hlb).1).trans hlb
    have hk3:W3.heap[d]?=some (.deferred (some [])):=(r3.high _ (by omega) (Array.getElem?_eq_some_iff.1 hkb).1).trans hkb
    have he:=run_endRound (P:=P) jump hl3
    have t3:Two d W3 (W3.putObj (d+1) (.loop { rec .busy none with state:=if jump.isNone then .ready else .done,pending:=jump })):=Two.put (.inr rfl) hl3
    have hwa:n0≤Wa.heap.size:=by have:=(Array.getElem?_eq_some_iff.1 hka).1;omega
    refine ⟨_,he,t3,?_,(World.putObj_heap_other (by omega)).trans hk3,(r1.low.trans ((tb.below hn0 hwa).trans r3.low)).trans (t3.below hn0 (by have h5:=(tb.below hn0 hwa).size;have h6:=r3.low.size;omega))⟩
    rw [World.putObj_heap_same (Array.getElem?_eq_some_iff.1 hl3).1,hrec]
   rintro e a3 W3 hp
   cases e with
   | normal=>
    obtain ⟨W4,h2,t3,h4,h5,h6⟩:=fin none W3 hp.1
    exact ⟨_,_,h2,.inl ⟨rfl,⟨hI _ _ _ hp.2 t3,h4,h5⟩,h6⟩⟩
   | ret=>
    obtain ⟨W4,h2,t3,h4,h5,h6⟩:=fin (some .ret) W3 hp.1
    exact ⟨_,_,h2,.inr ⟨rfl,hIx _ _ _ hp.2 t3,h4,h5⟩⟩
   | exit id=>exact hp.elim
   | goto t=>exact hp.elim
   | panic ch=>exact hp.elim
   | outgrown=>exact hp.elim
  ·rintro e W2 ⟨⟨v,rfl⟩,(⟨hi,hl,hk⟩ | ⟨c,hc,hi,hl,hk⟩)⟩
   ·refine ⟨none,_,(by have h:=run_endLoop (P:=P) hl (by rw [hrec];simp);rw [hrec] at h;exact h),?_⟩
    exact hdone _ (hI _ _ _ hi (Two.put (.inr rfl) hl)) ((World.putObj_heap_other (by omega)).trans hk)
   ·refine ⟨some .ret,_,(by have h:=run_endLoop (P:=P) hl (by rw [hrec];simp);rw [hrec] at h;exact h),?_⟩
    exact hstop c _ hc (hIx _ _ _ hi (Two.put (.inr rfl) hl)) ((World.putObj_heap_other (by omega)).trans hk)
end Mem
end Go.Proofs.YtlhnegbjoncieaaGreatDoor
namespace Go.Proofs.YtlhnegbjoncieaaGreatDoor
namespace Sha
open Go.RowKit
theorem wpList_unguard {P:Program} {ops:Array Oper} {rest:List Oper} {o:Oper} {a:Act} {w:World} {Q:Exit→Act→World→Prop} (hw:Region.wanted o (yielded ops a.tmps)=true)
 (h:wpList P ops Q ({ o with guard:=none }::rest) a w):wpList P ops Q (o::rest) a w:=by
 unfold wpList at h ⊢
 rw [if_pos hw]
 have hn:Region.wanted { o with guard:=none } (yielded ops a.tmps)=true:=rfl
 rw [if_pos hn] at h
 exact h
end Sha
end Go.Proofs.YtlhnegbjoncieaaGreatDoor
