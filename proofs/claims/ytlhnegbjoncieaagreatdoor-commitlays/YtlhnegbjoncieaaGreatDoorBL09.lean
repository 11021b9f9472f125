/- My own texts, merged. -/
import Derived.Test.YtlhnegbjoncieaaGreatDoorBL04
import Derived.Test.YtlhnegbjoncieaaGreatDoorBL05
import Derived.Maps.OwnSet
import Derived.Test.YtlhnegbjoncieaaGreatDoorBL06
namespace Go.Proofs.YtlhnegbjoncieaaGreatDoor
namespace Sha
open Go.RowKit Mem
theorem own_ne_at {w:World} {B b z n:Nat} {e t:TypeId} {v:Value} {xs:List Value} {C:Array Value} (h:w.ownsRow B e z v n xs) (hC:At w b C t) (ht:t≠e):v.ownBlock≠some b:=by
 rcases h.2 with ⟨rfl,_⟩ | ⟨g,cap,cur,rfl,hg,hh,hr⟩
 ·simp [Value.ownBlock]
 ·intro e
  have:g=b:=by simpa [Value.ownBlock] using e
  subst this
  unfold At at hC
  rw [hh] at hC
  injection hC with hC
  injection hC with _ h2
  exact ht h2.symm
structure App (w w1:World) (v v':Value):Prop where
 size:w.heap.size≤w1.heap.size
 k:∀ k,k < w.heap.size→v.ownBlock≠some k→w1.heap[k]?=w.heap[k]?
 b:v'.ownBlock=v.ownBlock∨∃ g,v'.ownBlock=some g∧w.heap.size≤g
theorem own_none {e:TypeId} {z:Nat} (w:World) (B:Nat) (hB:B≤w.heap.size):(w.alloc (.cells #[] e)).ownsRow B e z (.slice (some ⟨w.heap.size,0,none⟩) 0 0) 0 []:=World.ownsRow_made w #[] 0 hB (Nat.zero_le _) (by simp)
theorem App.after {w w0 w1:World} {v v':Value} (h:App w0 w1 v v') (hb:Below w.heap.size w w0):App w w1 v v':=
 ⟨Nat.le_trans hb.size h.size,fun k hk hn=>(h.k k (Nat.lt_of_lt_of_le hk hb.size) hn).trans (hb.block k hk),h.b.imp id fun ⟨g,e,hg⟩=>⟨g,e,Nat.le_trans hb.size hg⟩⟩
theorem App.chg {F:Foot} {w w1:World} {v v':Value} (h:App w w1 v v') (hb:Below 0 w w1) (hF:∀ k,v.ownBlock=some k→F k):Chg F w w1:=
 ⟨hb.os,hb.tape,hb.output,h.size,fun k hk hn=>h.k k hk fun e=>hn (hF k e)⟩
theorem at_appd {w w1:World} {b:Nat} {C:Array Value} {t:TypeId} {v v':Value} (h:At w b C t) (ha:App w w1 v v') (hne:v.ownBlock≠some b):At w1 b C t:=Sha.At.app h ha.k hne
section
variable {P:Program} {w:World} {B:Nat} {e:TypeId} {v:Value} {xs:List Value}
theorem run_append_app {t ty:TypeId} {zv vx:Value} {n m z:Nat} {ys:List Value} {bytes:Nat} (he:elemR P t e zv z bytes) (hzv:zv.cells.size=z) (hz0:0 < z) (hown:w.ownsRow B e z v n xs) (hrd:RdR w z vx m ys) (h1:∀ u∈ys,u.oneCell'=true) (hlen:(n+m)*bytes≤140737488355328) (hl2:n+m < 140737488355328) (hB:B≤w.heap.size) :
 ∃ v' w',(Builtin.append_ #[t,t] ty #[v,vx]).run P w=.ok v' w'∧w'.ownsRow B e z v' (n+m) (xs++ys)∧App w w' v v'∧Below B w w':=by
 obtain ⟨i0,hi,hzz,hs,hb⟩:=info_parts he.2
 obtain ⟨hyl,a0,cap,rfl,hr⟩:=hrd
 have hml:140737488355328≤maxLen:=by simp [maxLen]
 have hlt:∀ g,v.ownBlock=some g→B≤g:=fun g hg=>(World.ownsRow.lt hown g hg).1
 have fin:∀ {v':Value} {w':World},w.grownBy w' v.ownBlock→(v'.ownBlock=v.ownBlock∨v'.ownBlock=some w.heap.size)→App w w' v v'∧Below B w w':=fun h3 h5=>
  ⟨⟨h3.size,fun k hk hne=>h3.block k hk (fun e=>hne e.symm),h5.imp id fun h=>⟨_,h,Nat.le_refl _⟩⟩,(Below.refl _ _).grown h3 hB hlt⟩
 by_cases hne:m=0
 ·subst hne
  have hys:ys=[]:=List.eq_nil_of_length_eq_zero (by simpa using hyl)
  subst hys
  cases a0 with
  | none=>
   refine ⟨v,w,?_,by simpa using hown,fin (World.grownBy.refl w _) (.inl rfl)⟩
   rcases hown.2 with ⟨rfl,rfl⟩ | ⟨g,cap',cur,rfl,_,_,hn,_⟩
   ·simp [Builtin.append_,run_underlying he.1,sizeOf,typeInfo,hi,Builtin.lenOf,Builtin.firstCells]
   ·simp [Builtin.append_,run_underlying he.1,sizeOf,typeInfo,hi,Builtin.lenOf,Builtin.firstCells,hn,storeCells]
  | some ad=>
   obtain ⟨v',w',hrun,h2,h3,_,h5⟩:=run_append_own_at (P:=P) w B t ty e i0 zv z bytes he.1 hi hzz hs hb hzv hz0 v n xs hown ad 0 cap [] (by simp) (fun j u hu=>by simp at hu) (fun u hu=>by simp at hu) (by omega) (by simpa using hlen) hB
   exact ⟨v',w',hrun,h2,fin h3 h5⟩
 ·obtain ⟨ad,rfl,hc⟩:=hr hne
  obtain ⟨v',w',hrun,h2,h3,_,h5⟩:=run_append_own_at (P:=P) w B t ty e i0 zv z bytes he.1 hi hzz hs hb hzv hz0 v n xs hown ad m cap ys hyl hc h1 (by omega) hlen hB
  exact ⟨v',w',hrun,h2,fin h3 h5⟩
theorem wpList_append_app {ops:Array Oper} {rest:List Oper} {o:Oper} {a:Act} {Q:Exit→Act→World→Prop} (hgd:o.guard=none) (s x:Operand) (t:TypeId) (ho:o.op=.call { callee:=.builtin .append,args:=#[s,x],argTypes:=#[t,t] })
 (vx:Value) (n m z:Nat) (ys:List Value) (zv:Value) (bytes:Nat) (he:elemR P t e zv z bytes) (hzv:zv.cells.size=z) (hz0:0 < z) (hs:a.eval s=v) (hown:w.ownsRow B e z v n xs) (hx:a.eval x=vx) (hrd:RdR w z vx m ys) (h1:∀ u∈ys,u.oneCell'=true) (hlen:(n+m)*bytes≤140737488355328) (hl2:n+m < 140737488355328) (hB:B≤w.heap.size)
 (h:∀ v' w',w'.ownsRow B e z v' (n+m) (xs++ys)→App w w' v v'→Below B w w'→wpList P ops Q rest (a.put o.dst v') w') :
 wpList P ops Q (o::rest) a w:=by
 refine wpList_plain hgd fun K hK=>?_
 obtain ⟨v',w',hrun,h2,h3,h4⟩:=run_append_app (P:=P) (ty:=o.type) he hzv hz0 hown hrd h1 hlen hl2 hB
 unfold Oper.wp execOp
 simp only [ho,resolve,invoke,builtin,Sem.run_bind,Sem.run_pure,Result.andThen_ok,List.map_toArray,List.map_cons,List.map_nil,hs,hx,hrun]
 exact hK _ _ (h v' w' h2 h3 h4)
theorem plan_append_app {ops:Array Oper} {o:Oper} {a:Act} {Q:Exit→Act→World→Prop} {S:World→Prop} {i:Nat} {r:Plan} (s x:Operand) (t:TypeId) (ho:ops.toList[i]?=some o) (hw:Region.wanted o (yielded ops a.tmps)=true) (hop:o.op=.call { callee:=.builtin .append,args:=#[s,x],argTypes:=#[t,t] })
 (vx:Value) (n m z:Nat) (ys:List Value) (zv:Value) (bytes:Nat) (he:elemR P t e zv z bytes) (hzv:zv.cells.size=z) (hz0:0 < z) (hs:a.eval s=v) (hown:w.ownsRow B e z v n xs) (hx:a.eval x=vx) (hrd:RdR w z vx m ys) (h1:∀ u∈ys,u.oneCell'=true) (hlen:(n+m)*bytes≤140737488355328) (hl2:n+m < 140737488355328) (hB:B≤w.heap.size)
 (h:∀ v' w',w'.ownsRow B e z v' (n+m) (xs++ys)→App w w' v v'→Below B w w'→S w'∧wpPlan P ops Q S r (a.put o.dst v') w') :
 wpPlan P ops Q S (.sole i r) a w:=by
 refine wpOp_at ho hw ?_
 obtain ⟨v',w',hrun,h2,h3,h4⟩:=run_append_app (P:=P) (ty:=o.type) he hzv hz0 hown hrd h1 hlen hl2 hB
 unfold Oper.wp execOp
 simp only [hop,resolve,invoke,builtin,Sem.run_bind,Sem.run_pure,Result.andThen_ok,List.map_toArray,List.map_cons,List.map_nil,hs,hx,hrun]
 exact h v' w' h2 h3 h4
end
theorem rows_hd {w:World} {B:Nat} {e:TypeId} {z n:Nat} {v:Value} {xs:List Value} (h:w.ownsRow B e z v n xs):∃ a c,v=.slice a n c:=by
 obtain ⟨_,a,c,e,_⟩:=ownsRow_slR h
 exact ⟨a,c,e⟩
end Sha
end Go.Proofs.YtlhnegbjoncieaaGreatDoor
namespace Go.Proofs.YtlhnegbjoncieaaGreatDoor
namespace Sha
open Go.RowKit
theorem itp_root (p x:Nat) (h0:1≤p) (h1:p≤216) (hx:x < p):itp p x (topn p)+1=itn p:=by
 have h:=itp_lev p x h0 h1 hx (topn p) (Nat.le_refl _)
 have r:=root_one p h0 h1
 have s:=stn_lvn p (topn p) (top_le p).2
 omega
end Sha
end Go.Proofs.YtlhnegbjoncieaaGreatDoor
namespace Go.Proofs.YtlhnegbjoncieaaGreatDoor
namespace Sha
open Go.RowKit Mem
theorem wpList_conv {P:Program} {ops:Array Oper} {rest:List Oper} {o:Oper} {a:Act} {w:World} {Q:Exit→Act→World→Prop} (hw:Region.wanted o (yielded ops a.tmps)=true) (t1 t2:TypeId) (x:Operand) (vx v:Value)
 (hop:o.op=.convert t1 t2 x) (hx:a.eval x=vx) (hv:∀ w',(convert t1 t2 vx).run P w'=.ok v w') (h:wpList P ops Q rest (a.put o.dst v) w):wpList P ops Q (o::rest) a w:=by
 unfold wpList
 rw [if_pos hw]
 left
 unfold Oper.wp
 have:(execOp a.eval o).run P w=.ok (.value v) w:=by
  have:=hv w
  simp only [execOp,hop,hx]
  rw [Sem.run_bind,this];rfl
 rw [this]
 exact h
end Sha
end Go.Proofs.YtlhnegbjoncieaaGreatDoor
namespace Go.Proofs.YtlhnegbjoncieaaGreatDoor
namespace Sha
open Go.RowKit Mem
section
variable {P:Program} {ops:Array Oper} {Q:Exit→Act→World→Prop} {S:World→Prop} {w:World} {a:Act} {o:Oper} {i:Nat} {r:Plan}
theorem plan_store_at (ty:TypeId) (x y:Operand) (b k:Nat) (D C E:Array Value) (t:TypeId) (ho:ops.toList[i]?=some o) (hw:Region.wanted o (yielded ops a.tmps)=true) (hop:o.op=.store ty x y) (hdst:o.dst=none)
 (hx:a.eval x=.pointer (some ⟨b,k,none⟩)) (hy:a.eval y=.agg D) (hi:(P.info? ty).map (·.size)=some D.size) (hC:At w b C t) (hn:k+D.size≤C.size) (h1:D.all (·.oneCell')=true) (hE:Mem.splice C k D.toList=E) (hS:S (w.setRow b E))
 (h:wpPlan P ops Q S r a (w.setRow b E)):wpPlan P ops Q S (.sole i r) a w:=by
 refine wpOp_at ho hw ?_
 have hput:a.put o.dst undef=a:=by rw [hdst];rfl
 refine wp_store_mid ty x y hop b k D hx hy (fun j hj=>?_) hi h1 ?_
 ·rw [hC.cell,hC.free]
  exact ⟨by simp;omega,rfl⟩
 ·rw [setCells_row _ _ _ _ _ hC (by simpa using hn),hput,hE];exact ⟨hS,h⟩
end
end Sha
end Go.Proofs.YtlhnegbjoncieaaGreatDoor
namespace Go.Proofs.YtlhnegbjoncieaaGreatDoor
namespace Sha
open Go.RowKit Mem
section
variable {P:Program} {ops:Array Oper} {Q:Exit→Act→World→Prop} {S:World→Prop} {w:World} {a:Act} {o:Oper} {i:Nat} {r p:Plan}
theorem plan_make (l c:Operand) (t:TypeId) (ho:ops.toList[i]?=some o) (hw:Region.wanted o (yielded ops a.tmps)=true) (hop:o.op=Op.makeSlice t l c)
 (base:Nat) (e:TypeId) (ti:TypeInfo) (z:Value) (size:Nat) (h1:P.underlying t=some (.slice e)) (h2:P.info? e=some ti) (h3:ti.zero=some z) (h4:ti.size=size)
 (kl kc:IntKind) (n:Nat) (hl:a.eval l=.int kl (n:Int)) (hc:a.eval c=.int kc (n:Int)) (b2:ti.bytes*n≤281474976710656) (b3:n≤maxLen) (b4:base≤w.heap.size)
 (hK:∀ w',w'.ownsRow base e size (.slice (some ⟨w.heap.size,0,none⟩) n n) n (madeCells z.cells (n*size)).toList→w.grownBy w' none→S w'∧wpPlan P ops Q S r (a.put o.dst (.slice (some ⟨w.heap.size,0,none⟩) n n)) w'):wpPlan P ops Q S (.sole i r) a w:=by
 refine wpOp_at ho hw ?_
 obtain ⟨w',hrun,r1,r2⟩:=run_make_full (P:=P) w base t e ti z size h1 h2 h3 h4 kl kc n b2 b3 b4
 unfold Oper.wp
 simp [execOp,hop,hl,hc,hrun,Result.andThen]
 exact hK w' r1 r2
theorem plan_act (h:∀ a0,a0=a→wpPlan P ops Q S p a0 w):wpPlan P ops Q S p a w:=h a rfl
theorem plan_lem (J:Act→World→Prop) (t:Plan) (h1:∀ a w,J a w→wpPlan P ops Q S t a w) (h2:(∀ a w,J a w→wpPlan P ops Q S t a w)→wpPlan P ops Q S p a w):wpPlan P ops Q S p a w:=h2 h1
def setA (a:Act) (l:List (Nat × Value)):Act:={ a with tmps:=l.foldl (fun t q=>t.setIfInBounds q.1 q.2) a.tmps }
end
end Sha
end Go.Proofs.YtlhnegbjoncieaaGreatDoor
namespace Go.Proofs.YtlhnegbjoncieaaGreatDoor
namespace Mem
open Go.RowKit Go.Maps
structure KeyTy (P:Program) (k:TypeId) {α:Type} (ok:α→Prop) (val:α→Value) (key:α→Lit):Prop where
 keyed:Keyed P k
 read:∀ a,ok a→keyOf P k (val a)=some (key a)
 one:∀ a b,ok a→ok b→val a=val b→a=b
theorem KeyTy.key_one {P:Program} {k:TypeId} {α:Type} {ok:α→Prop} {val:α→Value} {key:α→Lit} (T:KeyTy P k ok val key) {a b:α} (ha:ok a) (hb:ok b) (h:key a=key b):a=b:=
 T.one a b ha hb (T.keyed.inj (T.read a ha) (h ▸ T.read b hb))
theorem keyTy_int {P:Program} {k:TypeId} {q:IntKind} (hk:P.underlying k=some (.int q)):KeyTy P k (fun x:Int=>(Lit.int q x).wf=true) (fun x=>.int q x) (fun x=>.int q x) where
 keyed:=int_keyed hk
 read a ha:=keyOf_int_mk hk ha
 one a b _ _ h:=by simpa using h
def SetM {α:Type} [DecidableEq α] (w:World) (P:Program) (k:TypeId) (R:Value→Option (DataW Unit × List MemPlace)) (u:DataW Unit) (ok:α→Prop) (key:α→Lit) (b:Nat) (xs:List α):Prop:=
 ∃ (n:Nat) (D:DataW Unit),w.ownsMap P k R b n D∧n≤xs.length∧∀ a,ok a→has D (key a)=decide (a∈xs)∧∀ z,D.atKey (key a) z=if a∈xs then u else z
section
variable {α:Type} [DecidableEq α] {w:World} {P:Program} {k:TypeId} {R:Value→Option (DataW Unit × List MemPlace)} {u:DataW Unit} {ok:α→Prop} {val:α→Value} {key:α→Lit} {b:Nat} {xs:List α}
theorem SetM.lt (h:SetM w P k R u ok key b xs):b < w.heap.size:=let ⟨_,_,ho,_⟩:=h;ho.lt
theorem setM_made (w:World) (P:Program) (k:TypeId) (R:Value→Option (DataW Unit × List MemPlace)) (u:DataW Unit) (ok:α→Prop) (key:α→Lit):SetM (w.alloc (.map #[] 0)) P k R u ok key w.heap.size []:=
 ⟨0,_,World.ownsMap_made w P k R,Nat.le_refl _,fun a _=>⟨by simp [has],fun z=>by simp [DataW.atKey]⟩⟩
theorem SetM.same {w':World} (h:SetM w P k R u ok key b xs) (hb:w'.heap[b]?=w.heap[b]?):SetM w' P k R u ok key b xs:=by
 obtain ⟨n,D,⟨es,clock,h1,h2⟩,hr⟩:=h
 exact ⟨n,D,⟨es,clock,hb.trans h1,h2⟩,hr⟩
theorem SetM.below {w':World} {B:Nat} (h:SetM w P k R u ok key b xs) (hb:Below B w w') (hlt:b < B):SetM w' P k R u ok key b xs:=h.same (hb.block b hlt)
theorem SetM.chg {w':World} {F:Foot} (h:SetM w P k R u ok key b xs) (hc:Chg F w w') (hn:¬ F b):SetM w' P k R u ok key b xs:=h.same (hc.block b h.lt hn)
theorem SetM.alloc (h:SetM w P k R u ok key b xs) (o:Obj):SetM (w.alloc o) P k R u ok key b xs:=by
 obtain ⟨n,D,ho,hr⟩:=h
 exact ⟨n,D,ho.alloc o,hr⟩
theorem SetM.drew (h:SetM w P k R u ok key b xs):SetM w.drew P k R u ok key b xs:=h
theorem SetM.alike {ys:List α} (h:SetM w P k R u ok key b xs) (hm:∀ a,a∈xs ↔ a∈ys) (hl:xs.length≤ys.length):SetM w P k R u ok key b ys:=by
 obtain ⟨n,D,ho,hn,hr⟩:=h
 refine ⟨n,D,ho,Nat.le_trans hn hl,fun a ha=>⟨?_,fun z=>?_⟩⟩
 ·rw [(hr a ha).1];simp [hm a]
 ·rw [(hr a ha).2 z];simp [hm a]
theorem SetM.look {t e:TypeId} (h:SetM w P k (plainElem P e) (.lit (.bool true)) ok key b xs) (T:KeyTy P k ok val key) (ht:P.underlying t=some (.map k e)) (he:P.underlying e=some .bool)
 (hz:(zeroValue e).run P w=.ok (.bool false) w) {a:α} (ha:ok a):(Instr.lookup t (.map (some b)) (val a) false).run P w=.ok (.bool (decide (a∈xs))) w:=by
 obtain ⟨n,D,ho,hn,hr⟩:=h
 obtain ⟨v,ps,hrun,hv⟩:=ho.lookup T.keyed ht hz (plainElem_bool he false) (T.read a ha)
 rw [(hr a ha).2] at hv
 rw [hrun]
 congr 1
 unfold plainElem at hv
 rw [he] at hv
 cases v <;> simp at hv
 rename_i x
 by_cases hm:a∈xs
 ·simp [hm] at hv;simp [hm,hv.1]
 ·simp [hm] at hv;simp [hm,hv.1]
theorem SetM.put {t e:TypeId} (h:SetM w P k R u ok key b xs) (T:KeyTy P k ok val key) (ht:P.underlying t=some (.map k e)) (hl:xs.length < maxLen)
 {v:Value} {ps:List MemPlace} (hv:R v=some (u,ps)) {a:α} (ha:ok a) :
 ∃ w',(Instr.mapUpdate t (.map (some b)) (val a) v).run P w=.ok () w'∧SetM w' P k R u ok key b (a::xs)∧Chg (fun x=>x=b) w w'∧w'.heap.size=w.heap.size:=by
 obtain ⟨n,D,ho,hn,hr⟩:=h
 obtain ⟨w',hrun,ho',hturn⟩:=ho.store T.keyed ht (Nat.lt_of_le_of_lt hn hl) (T.read a ha) hv
 have hg:=hturn.grown
 refine ⟨w',hrun,⟨n+1,_,ho',by simpa using hn,fun c hc=>?_⟩,⟨hg.os,hg.tape,hg.output,hg.size,fun x hx hne=>hg.block x hx (fun e=>hne (by simpa using e))⟩,?_⟩
 ·by_cases hca:c=a
  ·subst hca
   exact ⟨by rw [has_put_same ho.isMap (T.keyed.key (T.read c ha))];simp,fun z=>by rw [atKey_put_same ho.isMap (T.keyed.key (T.read c ha))];simp⟩
  ·have hk:key c≠key a:=fun e=>hca (T.key_one hc ha e)
   exact ⟨by rw [has_put_other hk,(hr c hc).1];simp [hca],fun z=>by rw [atKey_put_other hk,(hr c hc).2 z];simp [hca]⟩
 ·obtain ⟨es,clock,es',clock',_,rfl⟩:=hturn
  simp [ChangeMaps.setBlock]
end
section
variable {α:Type} [DecidableEq α] {P:Program} {k:TypeId} {ok:α→Prop} {val:α→Value} {key:α→Lit} {xs:List α} {ops:Array Oper} {rest:List Oper} {o:Oper} {a:Act} {w:World} {Q:Exit→Act→World→Prop} {S:World→Prop} {i:Nat} {r:Plan}
theorem wpList_map_made (hw:Region.wanted o (yielded ops a.tmps)=true) (t:TypeId) (hop:o.op=.makeMap t none)
 (h:wpList P ops Q rest (a.put o.dst (.map (some w.heap.size))) (w.alloc (.map #[] 0))):wpList P ops Q (o::rest) a w:=by
 unfold wpList
 rw [if_pos hw]
 left
 unfold Oper.wp
 have:(execOp a.eval o).run P w=.ok (.value (.map (some w.heap.size))) (w.alloc (.map #[] 0)):=by
  simp [execOp,hop,run_makeMap,Result.andThen]
 rw [this]
 exact h
theorem wpList_set_look (hw:Region.wanted o (yielded ops a.tmps)=true) (t:TypeId) (m x:Operand) (hop:o.op=.lookup t m x false) (e:TypeId) (b:Nat) (c:α)
 (hm:a.eval m=.map (some b)) (hx:a.eval x=val c) (hs:SetM w P k (plainElem P e) (.lit (.bool true)) ok key b xs) (T:KeyTy P k ok val key) (ht:P.underlying t=some (.map k e)) (he:P.underlying e=some .bool)
 (hz:(zeroValue e).run P w=.ok (.bool false) w) (hc:ok c) (u:Bool) (hu:u=true ↔ c∈xs) (h:wpList P ops Q rest (a.put o.dst (.bool u)) w):wpList P ops Q (o::rest) a w:=by
 have hd:decide (c∈xs)=u:=by rw [Bool.eq_iff_iff,hu];simp
 rw [←hd] at h
 unfold wpList
 rw [if_pos hw]
 left
 unfold Oper.wp
 have:(execOp a.eval o).run P w=.ok (.value (.bool (decide (c∈xs)))) w:=by
  simp [execOp,hop,hm,hx,hs.look T ht he hz hc,Result.andThen]
 rw [this]
 exact h
theorem wpList_set_put (hw:Region.wanted o (yielded ops a.tmps)=true) (t:TypeId) (m x y:Operand) (hop:o.op=.mapUpdate t m x y) (e:TypeId) (b:Nat) (c:α) (v:Value) (R:Value→Option (DataW Unit × List MemPlace)) (u:DataW Unit) (ps:List MemPlace)
 (hm:a.eval m=.map (some b)) (hx:a.eval x=val c) (hy:a.eval y=v) (hv:R v=some (u,ps)) (hs:SetM w P k R u ok key b xs) (T:KeyTy P k ok val key) (ht:P.underlying t=some (.map k e)) (hl:xs.length < maxLen)
 (hc:ok c) (h:∀ w',SetM w' P k R u ok key b (c::xs)→Chg (fun x=>x=b) w w'→w'.heap.size=w.heap.size→wpList P ops Q rest (a.put o.dst undef) w'):wpList P ops Q (o::rest) a w:=by
 unfold wpList
 rw [if_pos hw]
 left
 unfold Oper.wp
 obtain ⟨w',hrun,h1,h2,h3⟩:=hs.put T ht hl hv hc
 have:(execOp a.eval o).run P w=.ok .skip w':=by
  simp [execOp,hop,hm,hx,hy,hrun,Result.andThen]
 rw [this]
 exact h w' h1 h2 h3
end
end Mem
end Go.Proofs.YtlhnegbjoncieaaGreatDoor
