/- My own texts, merged. -/
import Derived.Test.YtlhnegbjoncieaaGreatDoorBL34
import Derived.Test.YtlhnegbjoncieaaGreatDoorBL09
import Derived.Test.YtlhnegbjoncieaaGreatDoorBL14
import Derived.Test.YtlhnegbjoncieaaGreatDoorBL07
import Derived.Test.YtlhnegbjoncieaaGreatDoorBL16
import Derived.WalkKit
import Derived.Lib.SmallJoins
import Derived.Test.YtlhnegbjoncieaaGreatDoorBL20
import Derived.Deep.Matrix
import Derived.ChangeSame
namespace Go.Proofs.YtlhnegbjoncieaaGreatDoor
namespace Sha
open Go.RowKit Mem
def chVs:List (Int × Value)→List Value
 | []=>[]
 | p::l=>.int .i64 p.1::p.2::chVs l
theorem chVs_snoc (p:Int × Value):∀ l,chVs (l++[p])=chVs l++[.int .i64 p.1,p.2]
 | []=>rfl
 | _::l=>by simp [chVs,chVs_snoc p l]
theorem chVs_at:∀ (l:List (Int × Value)) (i:Nat) (p:Int × Value),l[i]?=some p→(chVs l)[i*2]?=some (.int .i64 p.1)∧(chVs l)[i*2+1]?=some p.2
 | q::l,0,p,h=>by
  have hq:q=p:=by simpa using h
  subst hq
  exact ⟨rfl,rfl⟩
 | q::l,i+1,p,h=>by
  have h':l[i]?=some p:=by simpa using h
  have ih:=chVs_at l i p h'
  have e:chVs (q::l)=.int .i64 q.1::q.2::chVs l:=rfl
  rw [e,show (i+1)*2=i*2+1+1 by omega,show i*2+1+1+1=(i*2+1)+1+1 by omega]
  simpa using ih
structure ElseT {β:Type} (T:Foot→World→Value→β→Prop):Prop where
 keep:∀ D w w' u x,T D w u x→w.heap.size≤w'.heap.size→(∀ k,D k→k < w.heap.size→w'.heap[k]?=w.heap[k]?)→T D w' u x
 mono:∀ D E w u x,T D w u x→(∀ k,D k→k < w.heap.size→E k)→T E w u x
theorem elseB:ElseT (fun D w u (x:Lb8)=>SlB D w u x):=⟨fun _ _ _ _ _ h a b=>h.keep a b,fun _ _ _ _ _ h a=>h.mono a⟩
theorem elseR:ElseT (fun D w u (L:List RefV)=>SlR D w 34 u L.length (refCs L)):=⟨fun _ _ _ _ _ h a b=>SlR.keep h a b,fun _ _ _ _ _ h a=>SlR.mono h a⟩
structure OwnL {β:Type} (T:Foot→World→Value→β→Prop) (w:World) (B:Nat) (t:TypeId) (v:Value) (D:Foot) (ws:List (Int × Value)) (xs:List (Int × β)):Prop where
 e:Each2 (fun (q:Int × Value) (c:Int × β)=>q.1=c.1∧T D w q.2 c.2) ws xs
 o:w.ownsRow B t 2 v xs.length (chVs ws)
 d:∀ k,D k→k < w.heap.size∧v.ownBlock≠some k
section
variable {β:Type} {T:Foot→World→Value→β→Prop} {w w' w3 w5:World} {B:Nat} {t:TypeId} {v v' u:Value} {D G:Foot} {ws:List (Int × Value)} {xs:List (Int × β)} {x:β} {z:Int}
theorem ownL_nil (w:World) (B:Nat) (t:TypeId):OwnL T w B t (.slice none 0 0) (fun _=>False) [] []:=⟨trivial,World.ownsRow_nil _ _ _ _,fun _ h=>h.elim⟩
theorem OwnL.below (h:OwnL T w B t v D ws xs) (E:ElseT T) (hb:Below w.heap.size w w'):OwnL T w' B t v D ws xs:=
 ⟨h.e.mono fun _ _ a=>⟨a.1,E.keep _ _ _ _ _ a.2 hb.size fun k _ hl=>hb.block k hl⟩,ownsRow_below h.o hb,fun k hk=>⟨Nat.lt_of_lt_of_le (h.d k hk).1 hb.size,(h.d k hk).2⟩⟩
theorem OwnL.add (h:OwnL T w B t v D ws xs) (E:ElseT T) (hs:T G w u x) (hG:∀ k,G k→k < w.heap.size∧v.ownBlock≠some k) (hb:Below w.heap.size w w3) (ha:App w3 w5 v v') (ho:w5.ownsRow B t 2 v' (xs.length+1) (chVs ws++[.int .i64 z,u])) :
 OwnL T w5 B t v' (fun k=>D k∨G k) (ws++[(z,u)]) (xs++[(z,x)]):=by
 have s1:=hb.size;have s2:=ha.size
 have keep:∀ k,k < w.heap.size→v.ownBlock≠some k→w5.heap[k]?=w.heap[k]?:=fun k hl hn=>by rw [ha.k k (by omega) hn,hb.block k hl]
 have hh:∀ k,(D k∨G k)→k < w.heap.size∧v.ownBlock≠some k:=fun k hk=>hk.elim (h.d k) (hG k)
 refine ⟨Each2.snoc ⟨rfl,E.mono _ _ _ _ _ (E.keep _ _ _ _ _ hs (by omega) fun k hk hl=>keep k hl (hG k hk).2) fun k hk _=>.inr hk⟩ (h.e.mono fun _ _ a=>⟨a.1,E.mono _ _ _ _ _ (E.keep _ _ _ _ _ a.2 (by omega) fun k hk hl=>keep k hl (h.d k hk).2) fun k hk _=>.inl hk⟩),?_,fun k hk=>?_⟩
 ·rw [chVs_snoc,List.length_append];exact ho
 ·obtain ⟨a,b⟩:=hh k hk
  refine ⟨by omega,?_⟩
  rcases ha.b with e | ⟨g,e,hge⟩
  ·rw [e];exact b
  ·rw [e];intro c;injection c with c;omega
theorem OwnL.cells (h:OwnL T w B t v D ws xs):∃ a cap,v=.slice a xs.length cap∧(xs≠[]→∃ b o,a=some ⟨b,o,none⟩∧b < w.heap.size∧∀ (i:Nat) (c:Int × β),xs[i]?=some c→w.cell? ⟨b,o+i*2,none⟩=some (.int .i64 c.1)∧∃ u,w.cell? ⟨b,o+i*2+1,none⟩=some u∧T D w u c.2):=by
 obtain ⟨_,a,cap,e,_,hc⟩:=ownsRow_slR h.o
 refine ⟨a,cap,e,fun hne=>?_⟩
 obtain ⟨bb,oo,ea,_,hlt,hcell⟩:=hc (fun h=>hne (List.eq_nil_of_length_eq_zero h))
 refine ⟨bb,oo,ea,hlt,fun i c hi=>?_⟩
 obtain ⟨q,hq,h1,h2⟩:=h.e.at hi
 obtain ⟨g1,g2⟩:=chVs_at ws i q hq
 refine ⟨by rw [←h1];exact hcell _ _ g1,q.2,?_,h2⟩
 rw [Nat.add_assoc]
 exact hcell _ _ g2
end
theorem own_chs {w:World} {B:Nat} {t:TypeId} {v:Value} {D:Foot} {ws:List (Int × Value)} {C:List ChV} (h:OwnL (fun D w u (x:Lb8)=>SlB D w u x) w B t v D ws C):SlCh w v C:=by
 obtain ⟨a,cap,e,hc⟩:=h.cells
 refine ⟨a,cap,e,fun hne=>?_⟩
 obtain ⟨b,o,ea,hlt,hh⟩:=hc hne
 refine ⟨b,o,ea,hlt,fun i hi=>?_⟩
 obtain ⟨c0,u,c1,hu⟩:=hh i (C.getD i zch) (by rw [List.getD_eq_getElem?_getD,List.getElem?_eq_getElem hi];rfl)
 exact ⟨c0,u,c1,hu.sl⟩
theorem slR_slrf {D:Foot} {w:World} {v:Value} {L:List RefV} (h:SlR D w 34 v L.length (refCs L)) (hw:∀ r∈L,r.Wf):SlRf w v L:=by
 obtain ⟨_,a,cap,e,_,hc⟩:=h
 refine ⟨a,cap,e,fun hne=>?_⟩
 obtain ⟨b,o,ea,_,hlt,hcell⟩:=hc (fun h=>hne (List.eq_nil_of_length_eq_zero h))
 refine ⟨b,o,ea,hlt,fun i hi j u hu=>?_⟩
 have hj:j < 34:=by
  have:=(List.getElem?_eq_some_iff.1 hu).1
  rwa [refL_length (getD_wf hw i)] at this
 rw [Nat.add_assoc]
 exact hcell (i*34+j) u (by rw [refCs_get L hw i j hi hj];exact hu)
theorem own_nds {w:World} {B:Nat} {t:TypeId} {v:Value} {D:Foot} {ws:List (Int × Value)} {N:List NdV} (h:OwnL (fun D w u (L:List RefV)=>SlR D w 34 u L.length (refCs L)) w B t v D ws N) (hw:∀ n∈N,∀ r∈n.2,r.Wf):SlNd w v N:=by
 obtain ⟨a,cap,e,hc⟩:=h.cells
 refine ⟨a,cap,e,fun hne=>?_⟩
 obtain ⟨b,o,ea,hlt,hh⟩:=hc hne
 refine ⟨b,o,ea,hlt,fun i hi=>?_⟩
 obtain ⟨c0,u,c1,hu⟩:=hh i (N.getD i znd) (by rw [List.getD_eq_getElem?_getD,List.getElem?_eq_getElem hi];rfl)
 exact ⟨c0,u,c1,slR_slrf hu (hw _ (by rw [List.getD_eq_getElem?_getD,List.getElem?_eq_getElem hi];exact List.getElem_mem hi))⟩
theorem Sl.slB {w:World} {v:Value} {l:Lb8} (h:Sl w v l):SlB (fun k=>k < w.heap.size) w v l:=by
 obtain ⟨a,cap,e,hc,hr⟩:=h
 refine ⟨by simp [u8s_length],a,cap,e,hc,fun hne=>?_⟩
 obtain ⟨b,o,ea,hlt,hcell⟩:=hr (fun h=>hne (by rw [h];rfl))
 refine ⟨b,o,ea,hlt,hlt,fun j u hu=>?_⟩
 have hj:j < l.length:=by have:=(List.getElem?_eq_some_iff.1 hu).1;rwa [u8s_length] at this
 rw [u8s_get l j hj] at hu
 injection hu with hu
 rw [←hu]
 exact hcell j hj
end Sha
end Go.Proofs.YtlhnegbjoncieaaGreatDoor
namespace Go.Proofs.YtlhnegbjoncieaaGreatDoor
namespace Sha
open Go.RowKit Mem
def SlRd (w:World) (v:Value) (L:List (List ChV)):Prop:=
 ∃ a cap,v=.slice a L.length cap∧(L≠[]→∃ b o,a=some ⟨b,o,none⟩∧b < w.heap.size∧∀ i,i < L.length→∃ u,w.cell? ⟨b,o+i,none⟩=some u∧SlCh w u (L.getD i []))
theorem SlRd.below {w w':World} {v:Value} {L:List (List ChV)} (h:SlRd w v L) (hb:Below w.heap.size w w'):SlRd w' v L:=by
 obtain ⟨a,cap,e,hr⟩:=h
 refine ⟨a,cap,e,fun hne=>?_⟩
 obtain ⟨b,o,ea,hlt,hc⟩:=hr hne
 refine ⟨b,o,ea,Nat.lt_of_lt_of_le hlt hb.size,fun i hi=>?_⟩
 obtain ⟨u,c,hs⟩:=hc i hi
 exact ⟨u,(cell_keep hb hlt).trans c,hs.below hb⟩
theorem SlRd.at {w:World} {a:Option Addr} {n c i:Nat} {L:List (List ChV)} (h:SlRd w (.slice a n c) L) (hi:i < n):n=L.length∧∃ b o u,a=some ⟨b,o,none⟩∧b < w.heap.size∧w.cell? ⟨b,o+i,none⟩=some u∧SlCh w u (L.getD i []):=by
 obtain ⟨a',c',e,hr⟩:=h
 injection e with e1 e2 e3
 subst e1;subst e2
 refine ⟨rfl,?_⟩
 obtain ⟨b,o,ea,hlt,hc⟩:=hr (by intro h0;rw [h0] at hi;simp at hi)
 obtain ⟨u,hu,hs⟩:=hc i hi
 exact ⟨b,o,u,ea,hlt,hu,hs⟩
end Sha
end Go.Proofs.YtlhnegbjoncieaaGreatDoor
namespace Go.Proofs.YtlhnegbjoncieaaGreatDoor
namespace Sha
open Go.ChangeShapes Go.WideShapes Go.ChangeAt Go.WideMaps Go.WideElems Go.RowKit Mem
set_option maxRecDepth 100000
theorem ch_of {H:Type} {enc:TypeId × Value→H} {W:World} {n:Nat} {cs:List Value} {y:DataW H × List MemPlace} (hf:DataW.trod enc Tryz.prog W 0 (fun _=>true) true n 122 cs=some y):∃ (x:ChV) (u:Value),cs=[.int .i64 x.1,u]∧Sl W u x.2:=by
 obtain ⟨_,_,_,_,hl,_,_⟩:=DataW.trod_struct Tryz.underlying122 hf
 rw [show Tryz.prog.cellsOf 122=2 by kernel_rfl] at hl
 obtain ⟨y0,y1,m,_,_,h0,h1⟩:=trod_struct2 Tryz.underlying122 hf
 simp only at h0 h1
 rw [show Tryz.prog.cellsOf 3=1 by kernel_rfl] at h0
 rw [cS] at h1
 obtain ⟨a,b,rfl⟩:∃ a b,cs=[a,b]:=match cs,hl with | [a,b],_=>⟨a,b,rfl⟩
 obtain ⟨z0,e0,_,_⟩:=DataW.trod_int Tryz.underlying3 h0
 simp at e0
 obtain ⟨l,hl2,_⟩:=open_sl_in h1
 exact ⟨(z0,l),b,by rw [e0],hl2⟩
theorem open_u8w {H:Type} {enc:TypeId × Value→H} {W:World} {base:Nat} {v:Value} {d:DataW H} {p:List MemPlace} (hval:Value.okWide Tryz.prog W .any base 5 v) (h:DataW.Trod enc Tryz.prog W 0 (fun _=>true) true 5 v d p) :
 ∃ b:Nat,v=.int .u8 (b:Int)∧b < 256:=by
 obtain ⟨c,rfl,_,_,wc⟩:=open_int Tryz.underlying5 hval h
 simp [Lit.wf,IntKind.min,IntKind.max,IntKind.signed,IntKind.bits] at wc
 exact ⟨c.toNat,by congr 1;omega,by omega⟩
theorem cChs:Tryz.prog.cellsOf 33=1:=by kernel_rfl
theorem open_chs_in {H:Type} {enc:TypeId × Value→H} {W:World} {n:Nat} {v:Value} {y:DataW H × List MemPlace} (hf:DataW.trod enc Tryz.prog W 0 (fun _=>true) true n 33 [v]=some y) :
 ∃ C:List ChV,SlCh W v C:=by
 rcases DataW.trod_slice Tryz.underlying33 hf with ⟨hcs,_⟩ | ⟨a,len0,cap0,elems,rest,n,_,hcs,_,hb,hl,hm,hlen,hel,_,_⟩
 ·simp at hcs
  subst hcs
  exact ⟨[],SlCh.nil _ _⟩
 ·simp at hcs
  subst hcs
  rw [show Tryz.prog.cellsOf 122=2 by kernel_rfl] at hel
  have each:∀ i,i < len0→∃ x:ChV,∃ u,Sl W u x.2∧W.cell? (a.add (i*2))=some (.int .i64 x.1)∧W.cell? ((a.add (i*2)).add 1)=some u:=fun i hi=>by
   have h1:=hel i hi
   rw [List.getElem?_eq_getElem (by omega),Option.bind_eq_some_iff] at h1
   obtain ⟨cs',hc,hy⟩:=h1
   obtain ⟨x,u,rfl,hs⟩:=ch_of hy
   have h2:=(World.cells?_some hc).2.2
   refine ⟨x,u,hs,?_,?_⟩
   ·have:=h2 0 (by decide);simpa [Addr.add] using this
   ·have:=h2 1 (by decide);simpa using this
  haveI:Inhabited ChV:=⟨zch⟩
  obtain ⟨f,hff⟩:=Deep.choose_lt each
  have hL:((List.range len0).map f).length=len0:=by simp
  have hg:∀ i,i < len0→((List.range len0).map f).getD i zch=f i:=fun i hi=>by simp [List.getD_eq_getElem?_getD,hi]
  refine ⟨(List.range len0).map f,⟨some a,cap0,by rw [hL],fun hne=>?_⟩⟩
  have h0:0 < len0:=by rw [←hL];exact List.length_pos_iff.2 hne
  obtain ⟨_,_,hc,_⟩:=hff 0 h0
  obtain ⟨bb,oo,q⟩:=a
  have hq:q=none:=by
   have:=World.cell?_spot hc
   simpa [Addr.add] using this
  subst hq
  refine ⟨bb,oo,rfl,?_,fun i hi=>?_⟩
  ·rw [Addr.add_mid] at hc
   exact block_lt_of_cell hc
  ·rw [hL] at hi
   rw [hg i hi]
   obtain ⟨u,hs,c0,c1⟩:=hff i hi
   rw [Addr.add_mid] at c0
   rw [Addr.add_mid,Addr.add_mid] at c1
   exact ⟨c0,u,c1,hs⟩
theorem open_rds {H:Type} {enc:TypeId × Value→H} {W:World} {base:Nat} {v:Value} {d:DataW H} {p:List MemPlace} (hval:Value.okWide Tryz.prog W .any base 23 v) (h:DataW.Trod enc Tryz.prog W 0 (fun _=>true) true 23 v d p) :
 ∃ L:List (List ChV),SlRd W v L:=by
 obtain ⟨a0,len0,cap0,rfl⟩:=okWide_slice Tryz.underlying23 hval
 obtain ⟨fuel,hf⟩:=h
 rcases DataW.trod_slice Tryz.underlying23 hf with ⟨hcs,_⟩ | ⟨a,len,cap,elems,rest,n,_,hcs,_,hb,hl,hm,hlen,hel,_,_⟩
 ·simp [Value.cells] at hcs
  obtain ⟨rfl,rfl,rfl⟩:=hcs
  exact ⟨[],none,0,rfl,fun h=>absurd rfl h⟩
 ·simp [Value.cells] at hcs
  obtain ⟨rfl,rfl,rfl⟩:=hcs
  rw [cChs] at hel
  have each:∀ i,i < len0→∃ x:List ChV,∃ u,W.cell? (a.add (i*1))=some u∧SlCh W u x:=fun i hi=>by
   have h1:=hel i hi
   rw [List.getElem?_eq_getElem (by omega),Option.bind_eq_some_iff] at h1
   obtain ⟨cs',hc,hy⟩:=h1
   have h2:=(World.cells?_some hc)
   have hl1:cs'.length=1:=h2.2.1
   obtain ⟨u,rfl⟩:∃ u,cs'=[u]:=match cs',hl1 with | [u],_=>⟨u,rfl⟩
   obtain ⟨x,hx⟩:=open_chs_in hy
   refine ⟨x,u,?_,hx⟩
   have:=h2.2.2 0 (by decide);simpa [Addr.add] using this
  obtain ⟨f,hff⟩:=Deep.choose_lt each
  have hL:((List.range len0).map f).length=len0:=by simp
  have hg:∀ i,i < len0→((List.range len0).map f).getD i []=f i:=fun i hi=>by simp [List.getD_eq_getElem?_getD,hi]
  refine ⟨(List.range len0).map f,⟨some a,cap0,by rw [hL],fun hne=>?_⟩⟩
  have h0:0 < len0:=by rw [←hL];exact List.length_pos_iff.2 hne
  obtain ⟨_,hc,_⟩:=hff 0 h0
  obtain ⟨bb,oo,q⟩:=a
  have hq:q=none:=by
   have:=World.cell?_spot hc
   simpa [Addr.add] using this
  subst hq
  refine ⟨bb,oo,rfl,?_,fun i hi=>?_⟩
  ·rw [Addr.add_mid] at hc
   exact block_lt_of_cell hc
  ·rw [hL] at hi
   rw [hg i hi]
   obtain ⟨u,c0,hs⟩:=hff i hi
   rw [Addr.add_mid] at c0
   exact ⟨u,by simpa using c0,hs⟩
end Sha
end Go.Proofs.YtlhnegbjoncieaaGreatDoor
