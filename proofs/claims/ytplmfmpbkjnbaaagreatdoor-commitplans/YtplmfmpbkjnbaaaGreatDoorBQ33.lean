/- My own texts, merged. -/
import Derived.Test.YtplmfmpbkjnbaaaGreatDoorBQ32
import Derived.Test.YtplmfmpbkjnbaaaGreatDoorBQ13
import Derived.Test.YtplmfmpbkjnbaaaGreatDoorBQ27
import Derived.Test.YtplmfmpbkjnbaaaGreatDoorBQ16
import Derived.Test.YtplmfmpbkjnbaaaGreatDoorBQ03
import Derived.Test.YtplmfmpbkjnbaaaGreatDoorBQ19
import Derived.Test.YtplmfmpbkjnbaaaGreatDoorBQ20
import Derived.Test.YtplmfmpbkjnbaaaGreatDoorBQ07
import Derived.Test.YtplmfmpbkjnbaaaGreatDoorBQ08
import Derived.Test.YtplmfmpbkjnbaaaGreatDoorBQ02
import Derived.Great.Walk
import Derived.OwnWalk
import Derived.Deep.DeepCutAuto
import Derived.Test.YtplmfmpbkjnbaaaGreatDoorBQ12
import Derived.Test.YtplmfmpbkjnbaaaGreatDoorBQ23
import Derived.Test.YtplmfmpbkjnbaaaGreatDoorBQ21
import Derived.Test.YtplmfmpbkjnbaaaGreatDoorBQ00
import Derived.Test.YtplmfmpbkjnbaaaGreatDoorBQ24
import Derived.Test.YtplmfmpbkjnbaaaGreatDoorBQ29
import Derived.Test.YtplmfmpbkjnbaaaGreatDoorBQ18
import Derived.Laws.OwnMore
import Derived.Test.YtplmfmpbkjnbaaaGreatDoorBQ05
import Derived.Test.YtplmfmpbkjnbaaaGreatDoorBQ10
import Derived.Deep.Matrix
import Derived.ChangeSame
set_option maxRecDepth 100000
set_option maxHeartbeats 2000000
namespace Go.Proofs.YtplmfmpbkjnbaaaGreatDoor
namespace Sha
open Go.RowKit Mem
theorem may_iff (p:Nat) (N:List NdV) (C:List ChV):mayT p N C=true ↔ riseT p C∧∀ i,i < itn p→isN p (pgsC C) i=true→(findD N (i:Int)).length=many p i∧∀ r∈findD N (i:Int),plOk r=true:=by
 unfold mayT
 rw [Bool.and_eq_true,decide_eq_true_eq,List.all_eq_true]
 constructor
 ·rintro ⟨a,b⟩
  refine ⟨a,fun i hi hn=>?_⟩
  have h:=b i ((mem_need p _ i).2 ⟨hi,hn⟩)
  unfold nodeOk at h
  rw [Bool.and_eq_true,decide_eq_true_eq,List.all_eq_true] at h
  exact h
 ·rintro ⟨a,b⟩
  refine ⟨a,fun i hi=>?_⟩
  obtain ⟨h1,h2⟩:=(mem_need p _ i).1 hi
  unfold nodeOk
  rw [Bool.and_eq_true,decide_eq_true_eq,List.all_eq_true]
  exact b i h1 h2
structure GoodC (p:Nat) (root:RefV) (N:List NdV) (C:List ChV):Prop where
 h0:1≤p
 h1:p≤216
 may:mayT p N C=true
 rt:plOk root=true
 wf:∀ n∈N,∀ r∈n.2,r.Wf
 rw:root.Wf
def tchC (p:Nat) (C:List ChV) (i:Nat):Bool:=if i < p then (pgsC C).contains (i:Int) else isN p (pgsC C) i
theorem findD_wf {N:List NdV} (h:∀ n∈N,∀ r∈n.2,r.Wf) (z:Int):∀ r∈findD N z,r.Wf:=by
 intro r hr
 unfold findD findT at hr
 cases e:N.find? fun n=>n.1 == z with
 | none=>rw [e] at hr;simp at hr
 | some n=>rw [e] at hr;exact h n (List.mem_of_find?_eq_some e) r (by simpa using hr)
theorem getD_pl {L:List RefV} (h:∀ r∈L,plOk r=true) (i:Nat):plOk (L.getD i zref)=true:=by
 rw [List.getD_eq_getElem?_getD]
 by_cases hi:i < L.length
 ·rw [List.getElem?_eq_getElem hi];exact h _ (List.getElem_mem hi)
 ·rw [List.getElem?_eq_none (by omega)];rfl
theorem rise_lt {p:Nat} {C:List ChV} (h:riseT p C) (i:Nat):∀ j,i < j→j < C.length→(C.getD i zch).1 < (C.getD j zch).1:=by
 intro j
 induction j with
 | zero=>intro a;omega
 | succ j ih=>
  intro a b
  have g:=(h (j+1) b).2.2 (by omega)
  rw [Nat.add_sub_cancel] at g
  by_cases e:i=j
  ·subst e;exact g
  ·have:=ih (by omega) (by omega);omega
theorem mem_pgsC {C:List ChV} {z:Int}:z∈pgsC C ↔ ∃ j,j < C.length∧(C.getD j zch).1=z:=by
 unfold pgsC
 rw [List.mem_map]
 constructor
 ·rintro ⟨c,hc,e⟩
  obtain ⟨j,hj,e2⟩:=List.mem_iff_getElem.1 hc
  exact ⟨j,hj,by rw [List.getD_eq_getElem?_getD,List.getElem?_eq_getElem hj,Option.getD_some,e2];exact e⟩
 ·rintro ⟨j,hj,e⟩
  rw [List.getD_eq_getElem?_getD,List.getElem?_eq_getElem hj,Option.getD_some] at e
  exact ⟨C[j],List.getElem_mem hj,e⟩
theorem chgP_get {p:Nat} {C:List ChV} (h:riseT p C) {j x:Nat} (hj:j < C.length) (hx:(C.getD j zch).1=(x:Int)):chgP C x=some (C.getD j zch).2:=by
 have e:C.find? (fun c=>c.1 == (x:Int))=some C[j]:=by
  rw [List.find?_eq_some_iff_getElem]
  have ej:C.getD j zch=C[j]:=by rw [List.getD_eq_getElem?_getD,List.getElem?_eq_getElem hj,Option.getD_some]
  rw [ej] at hx
  refine ⟨by simp [hx],j,hj,rfl,fun i hi=>?_⟩
  have g:=rise_lt h i j hi hj
  have ei:C.getD i zch=C[i]:=by rw [List.getD_eq_getElem?_getD,List.getElem?_eq_getElem (by omega),Option.getD_some]
  rw [ei,ej,hx] at g
  have:¬ C[i].1=(x:Int):=by omega
  simp [this]
 unfold chgP
 rw [e,List.getD_eq_getElem?_getD,List.getElem?_eq_getElem hj]
 rfl
theorem chgP_none {C:List ChV} {x:Nat} (h:(x:Int) ∉ pgsC C):chgP C x=none:=by
 unfold chgP
 rw [List.find?_eq_none.2]
 ·rfl
 ·intro c hc e
  exact h (List.mem_map.2 ⟨c,hc,by simpa using e⟩)
section
variable {key:Lb8} {ep:BitVec 32} {p:Nat} {root:RefV} {N:List NdV} {C:List ChV}
theorem sel_none {i:Nat} (h:tchC p C i=false):selC key ep p root N C i=none:=by
 unfold tchC at h
 unfold selC stpC pageC
 by_cases hp:i < p
 ·rw [if_pos hp] at h ⊢
  rw [chgP_none (by simpa using h)]
  rfl
 ·rw [if_neg hp] at h ⊢
  rw [h]
  rfl
theorem tch_par (G:GoodC p root N C) {i:Nat} (h:tchC p C i=true) (hi:i+1 < itn p):isN p (pgsC C) (parN p i).1=true:=by
 unfold tchC at h
 by_cases hp:i < p
 ·rw [if_pos hp] at h
  exact isN_page G.h0 G.h1 hp (by simpa using h)
 ·rw [if_neg hp] at h
  exact isN_par G.h0 G.h1 hi h
theorem old_wf (G:GoodC p root N C) (i:Nat):(oldC p root N i).Wf:=by
 unfold oldC
 split
 ·exact getD_wf (findD_wf G.wf _) _
 ·exact G.rw
theorem old_ok (G:GoodC p root N C) {i:Nat} (h:i+1 < itn p→isN p (pgsC C) (parN p i).1=true):plOk (oldC p root N i)=true:=by
 unfold oldC
 by_cases hi:i+1 < itn p
 ·rw [if_pos hi]
  exact getD_pl (((may_iff p N C).1 G.may).2 _ (par_lev p i G.h0 G.h1 hi).2.2.1 (h hi)).2 _
 ·rw [if_neg hi];exact G.rt
theorem opl_ok (G:GoodC p root N C) {i:Nat} (h:tchC p C i=true):0≤oplC p root N i∧oplC p root N i≤1:=by
 have:=old_ok G (tch_par G h)
 unfold oplC
 unfold plOk at this
 exact of_decide_eq_true this
theorem fr_wf {i:Nat} {r:RefV} (h:frC key ep p root N C i=some r):r.Wf:=by
 unfold frC selC stpC at h
 cases e:pageC p N C (frL key ep p root N C i) i with
 | none=>rw [e] at h;cases h
 | some pg=>rw [e] at h;simp at h;rw [←h];exact hideR_wf _ _ _ _ _
theorem fr_pl {i:Nat} {r:RefV} (h:frC key ep p root N C i=some r) (ho:plOk (oldC p root N i)=true):plOk r=true:=by
 unfold frC selC stpC at h
 cases e:pageC p N C (frL key ep p root N C i) i with
 | none=>rw [e] at h;cases h
 | some pg=>
  rw [e] at h
  simp at h
  rw [←h]
  unfold hidC hideR
  split
  ·rfl
  ·unfold plOk at *
   have:=of_decide_eq_true ho
   show decide (0≤1 - oplC p root N i∧1 - oplC p root N i≤1)=true
   unfold oplC
   exact decide_eq_true (by omega)
theorem refsC_wf (hw:∀ n∈N,∀ r∈n.2,r.Wf) (n q:Nat):∀ r∈refsC key ep p root N C n q,r.Wf:=by
 intro r hr
 unfold refsC newC at hr
 obtain ⟨t,_,rfl⟩:=List.mem_map.1 hr
 rw [frL_get]
 split
 ·cases e:frC key ep p root N C (fst p q+t) with
  | none=>exact getD_wf (findD_wf hw _) _
  | some r=>exact fr_wf e
 ·exact getD_wf (findD_wf hw _) _
theorem refsC_pl (G:GoodC p root N C) (n q:Nat) (hp:p≤q) (hq:q < itn p) (hn:isN p (pgsC C) q=true):∀ r∈refsC key ep p root N C n q,plOk r=true:=by
 intro r hr
 have hd:=getD_pl (((may_iff p N C).1 G.may).2 q hq hn).2
 unfold refsC newC at hr
 obtain ⟨t,ht,rfl⟩:=List.mem_map.1 hr
 have ht:=List.mem_range.1 ht
 rw [frL_get]
 split
 ·cases e:frC key ep p root N C (fst p q+t) with
  | none=>exact hd t
  | some r=>
   have hk:=(kid_iff p q _ t G.h0 G.h1 hp hq).1 ⟨ht,rfl⟩
   exact fr_pl e (old_ok G fun _=>by rw [hk.2];exact hn)
 ·exact hd t
theorem layC_ok (G:GoodC p root N C) (n q:Nat) (hp:p≤q) (hq:q < itn p) (hn:isN p (pgsC C) q=true):(layN (refsC key ep p root N C n q)).2=0:=by
 have h:=node_kids p q G.h0 G.h1 hp hq
 have h6:=many_le p q
 have hl:(refsC key ep p root N C n q).length=many p q:=refsC_length n q
 rw [layN_good (by omega) (by omega) fun t _=>getD_pl (refsC_pl G n q hp hq hn) t]
theorem layC_len (G:GoodC p root N C) (n q:Nat) (hp:p≤q) (hq:q < itn p) (hn:isN p (pgsC C) q=true):(layN (refsC key ep p root N C n q)).1.length=256:=
 layN_length (refsC_wf G.wf n q) (Prod.ext rfl (layC_ok G n q hp hq hn))
theorem page_ok (G:GoodC p root N C) {i:Nat} (hi:i < itn p) (h:tchC p C i=true):∃ pg,pageC p N C (frL key ep p root N C i) i=some pg∧pg.length=256:=by
 unfold tchC at h
 unfold pageC
 by_cases hp:i < p
 ·rw [if_pos hp] at h ⊢
  obtain ⟨j,hj,e⟩:=mem_pgsC.1 (by simpa using h)
  have hr:=((may_iff p N C).1 G.may).1
  exact ⟨_,chgP_get hr hj e,(hr j hj).2.1⟩
 ·rw [if_neg hp] at h ⊢
  rw [if_pos h]
  exact ⟨_,rfl,layC_len G i i (by omega) hi h⟩
theorem blk_int (G:GoodC p root N C) {i:Nat} (h:tchC p C i=true):(2+2*(i:Int)+(1 - oplC p root N i))=((blkC p root N i:Nat):Int):=by
 have:=opl_ok G h
 unfold blkC
 omega
theorem sel_ok (G:GoodC p root N C) {i:Nat} {pg:Lb8} (h:tchC p C i=true) (hp:pageC p N C (frL key ep p root N C i) i=some pg) (hl:pg.length=256) :
 hidC key ep p root N i pg=(sealL key ep (blkC p root N i:Nat) pg,⟨1 - oplC p root N i,ep,digestOf (sealL key ep (blkC p root N i:Nat) pg)⟩,0)∧selC key ep p root N C i=some (sealL key ep (blkC p root N i:Nat) pg,⟨1 - oplC p root N i,ep,digestOf (sealL key ep (blkC p root N i:Nat) pg)⟩):=by
 have ho:=opl_ok G h
 have hb:=blk_int G h
 have e:hidC key ep p root N i pg=(sealL key ep (blkC p root N i:Nat) pg,⟨1 - oplC p root N i,ep,digestOf (sealL key ep (blkC p root N i:Nat) pg)⟩,0):=by
  unfold hidC
  rw [hb]
  exact hideR_good key ep (1 - oplC p root N i) (blkC p root N i:Nat) pg hl (by omega) (by omega) (by omega)
 refine ⟨e,?_⟩
 unfold selC stpC
 rw [hp,Option.map_some,e]
theorem skip_any {a:Nat}:∀ b,a≤b→(∀ i,a≤i→i < b→tchC p C i=false)→putsC key ep p root N C b=putsC key ep p root N C a∧∀ q,refsC key ep p root N C b q=refsC key ep p root N C a q:=by
 intro b
 induction b with
 | zero=>
  intro h _
  have:a=0:=by omega
  subst this
  exact ⟨rfl,fun _=>rfl⟩
 | succ b ih=>
  intro h hn
  by_cases e:a=b+1
  ·subst e;exact ⟨rfl,fun _=>rfl⟩
  ·obtain ⟨h1,h2⟩:=ih (by omega) fun i x y=>hn i x (by omega)
   have hs:=sel_none (key:=key) (ep:=ep) (root:=root) (N:=N) (hn b (by omega) (by omega))
   exact ⟨by rw [putsC_none hs,h1],fun q=>by rw [refsC_none hs,h2]⟩
end
theorem filter_at (f:Nat→Bool):∀ n j,j < ((List.range n).filter f).length→((List.range n).filter f).getD j 0 < n∧f (((List.range n).filter f).getD j 0)=true∧(List.range (((List.range n).filter f).getD j 0)).filter f=((List.range n).filter f).take j:=by
 intro n
 induction n with
 | zero=>intro j h;simp at h
 | succ n ih=>
  intro j h
  rw [List.range_succ,List.filter_append] at h ⊢
  by_cases hj:j < ((List.range n).filter f).length
  ·obtain ⟨a,b,c⟩:=ih j hj
   rw [List.getD_eq_getElem?_getD,List.getElem?_append_left hj,←List.getD_eq_getElem?_getD]
   exact ⟨by omega,b,by rw [c,List.take_append_of_le_length (by omega)]⟩
  ·by_cases hf:f n=true
   ·have e1:[n].filter f=[n]:=by simp [hf]
    rw [e1] at h ⊢
    have e:j=((List.range n).filter f).length:=by simp at h;omega
    subst e
    have e2:(List.filter f (List.range n)++[n]).getD (List.filter f (List.range n)).length 0=n:=by
     rw [List.getD_eq_getElem?_getD,List.getElem?_append_right (Nat.le_refl _),Nat.sub_self];rfl
    rw [e2]
    exact ⟨by omega,hf,by rw [List.take_append_of_le_length (Nat.le_refl _),List.take_length]⟩
   ·have e1:[n].filter f=[]:=by simp [hf]
    rw [e1] at h
    simp at h
    omega
theorem filter_succ (f:Nat→Bool) (n:Nat):(List.range (n+1)).filter f=(List.range n).filter f++if f n then [n] else []:=by
 rw [List.range_succ,List.filter_append]
 congr 1
 by_cases h:f n=true
 ·rw [if_pos h];simp [h]
 ·rw [if_neg h];simp [h]
theorem filter_gap (f:Nat→Bool) {m x:Nat} (h:(List.range m).filter f=(List.range x).filter f):∀ i,m≤i→i < x→f i=false:=by
 intro i h1 h2
 cases e:f i with
 | false=>rfl
 | true=>
  have:i∈(List.range x).filter f:=List.mem_filter.2 ⟨List.mem_range.2 h2,e⟩
  rw [←h] at this
  have:=List.mem_range.1 (List.mem_filter.1 this).1
  omega
theorem filter_le (f:Nat→Bool) {m x:Nat} (h:(List.range m).filter f=(List.range x).filter f) (hx:f x=true):m≤x:=by
 rcases Nat.lt_or_ge x m with g | g
 ·have:x∈(List.range m).filter f:=List.mem_filter.2 ⟨List.mem_range.2 g,hx⟩
  rw [h] at this
  have:=List.mem_range.1 (List.mem_filter.1 this).1
  omega
 ·exact g
end Sha
end Go.Proofs.YtplmfmpbkjnbaaaGreatDoor
namespace Go.Proofs.YtplmfmpbkjnbaaaGreatDoor
namespace Sha
open Go.RowKit Mem
def SlCh (w:World) (v:Value) (C:List ChV):Prop:=
 ∃ a cap,v=.slice a C.length cap∧(C≠[]→∃ b o,a=some ⟨b,o,none⟩∧b < w.heap.size∧∀ i,i < C.length→w.cell? ⟨b,o+i*2,none⟩=some (.int .i64 (C.getD i zch).1)∧∃ u,w.cell? ⟨b,o+i*2+1,none⟩=some u∧Sl w u (C.getD i zch).2)
def SlNd (w:World) (v:Value) (N:List NdV):Prop:=
 ∃ a cap,v=.slice a N.length cap∧(N≠[]→∃ b o,a=some ⟨b,o,none⟩∧b < w.heap.size∧∀ i,i < N.length→w.cell? ⟨b,o+i*2,none⟩=some (.int .i64 (N.getD i znd).1)∧∃ u,w.cell? ⟨b,o+i*2+1,none⟩=some u∧SlRf w u (N.getD i znd).2)
theorem cell_keep {w w':World} {b o:Nat} (hb:Below w.heap.size w w') (hlt:b < w.heap.size):w'.cell? ⟨b,o,none⟩=w.cell? ⟨b,o,none⟩:=World.cell?_of_block (w:=w) (w':=w') (a:=⟨b,o,none⟩) (hb.block b hlt)
theorem SlCh.below {w w':World} {v:Value} {C:List ChV} (h:SlCh w v C) (hb:Below w.heap.size w w'):SlCh w' v C:=by
 obtain ⟨a,cap,e,hr⟩:=h
 refine ⟨a,cap,e,fun hne=>?_⟩
 obtain ⟨b,o,ea,hlt,hc⟩:=hr hne
 refine ⟨b,o,ea,Nat.lt_of_lt_of_le hlt hb.size,fun i hi=>?_⟩
 obtain ⟨c0,u,c1,hu⟩:=hc i hi
 exact ⟨(cell_keep hb hlt).trans c0,u,(cell_keep hb hlt).trans c1,hu.below hb⟩
theorem SlNd.below {w w':World} {v:Value} {N:List NdV} (h:SlNd w v N) (hb:Below w.heap.size w w'):SlNd w' v N:=by
 obtain ⟨a,cap,e,hr⟩:=h
 refine ⟨a,cap,e,fun hne=>?_⟩
 obtain ⟨b,o,ea,hlt,hc⟩:=hr hne
 refine ⟨b,o,ea,Nat.lt_of_lt_of_le hlt hb.size,fun i hi=>?_⟩
 obtain ⟨c0,u,c1,hu⟩:=hc i hi
 exact ⟨(cell_keep hb hlt).trans c0,u,(cell_keep hb hlt).trans c1,hu.below hb⟩
theorem SlCh.hd {w:World} {v:Value} {C:List ChV} (h:SlCh w v C):∃ a c,v=.slice a C.length c:=let ⟨a,c,e,_⟩:=h;⟨a,c,e⟩
theorem SlNd.hd {w:World} {v:Value} {N:List NdV} (h:SlNd w v N):∃ a c,v=.slice a N.length c:=let ⟨a,c,e,_⟩:=h;⟨a,c,e⟩
theorem SlCh.nil (w:World) (cap:Nat):SlCh w (.slice none 0 cap) []:=⟨none,cap,rfl,fun h=>absurd rfl h⟩
theorem SlNd.nil (w:World) (cap:Nat):SlNd w (.slice none 0 cap) []:=⟨none,cap,rfl,fun h=>absurd rfl h⟩
def SlNdG (G:Foot) (w:World) (v:Value) (N:List NdV):Prop:=∀ w2:World,w.heap.size≤w2.heap.size→(∀ k,G k→k < w.heap.size→w2.heap[k]?=w.heap[k]?)→SlNd w2 v N
theorem SlNdG.sl {G:Foot} {w:World} {v:Value} {N:List NdV} (h:SlNdG G w v N):SlNd w v N:=h w (Nat.le_refl _) fun _ _ _=>rfl
theorem SlNdG.keep {G:Foot} {w w':World} {v:Value} {N:List NdV} (h:SlNdG G w v N) (hs:w.heap.size≤w'.heap.size) (hk:∀ k,G k→k < w.heap.size→w'.heap[k]?=w.heap[k]?):SlNdG G w' v N:=
 fun w2 h2 k2=>h w2 (Nat.le_trans hs h2) fun k a b=>(k2 k a (Nat.lt_of_lt_of_le b hs)).trans (hk k a b)
theorem SlNdG.mono {G H:Foot} {w:World} {v:Value} {N:List NdV} (h:SlNdG G w v N) (hg:∀ k,G k→k < w.heap.size→H k):SlNdG H w v N:=
 fun w2 h2 k2=>h w2 h2 fun k a b=>k2 k (hg k a b) b
theorem SlNdG.nil (G:Foot) (w:World) (cap:Nat):SlNdG G w (.slice none 0 cap) []:=fun w2 _ _=>SlNd.nil w2 cap
theorem slch_at {w:World} {a:Option Addr} {n c i:Nat} {C:List ChV} (h:SlCh w (.slice a n c) C) (hn:n=C.length) (hi:i < n):∃ b o u,a=some ⟨b,o,none⟩∧b < w.heap.size∧w.cell? ⟨b,o+i*2,none⟩=some (.int .i64 (C.getD i zch).1)∧w.cell? ⟨b,o+i*2+1,none⟩=some u∧Sl w u (C.getD i zch).2:=by
 obtain ⟨a',c',e,hr⟩:=h
 obtain ⟨b,o,ea,hlt,hc⟩:=hr (by intro e0;subst e0;simp at hn;omega)
 injection e with e1 _ _
 obtain ⟨c0,u,c1,hu⟩:=hc i (by omega)
 exact ⟨b,o,u,e1.trans ea,hlt,c0,c1,hu⟩
theorem slnd_at {w:World} {a:Option Addr} {n c i:Nat} {N:List NdV} (h:SlNd w (.slice a n c) N) (hn:n=N.length) (hi:i < n):∃ b o u,a=some ⟨b,o,none⟩∧b < w.heap.size∧w.cell? ⟨b,o+i*2,none⟩=some (.int .i64 (N.getD i znd).1)∧w.cell? ⟨b,o+i*2+1,none⟩=some u∧SlRf w u (N.getD i znd).2:=by
 obtain ⟨a',c',e,hr⟩:=h
 obtain ⟨b,o,ea,hlt,hc⟩:=hr (by intro e0;subst e0;simp at hn;omega)
 injection e with e1 _ _
 obtain ⟨c0,u,c1,hu⟩:=hc i (by omega)
 exact ⟨b,o,u,e1.trans ea,hlt,c0,c1,hu⟩
theorem find_step (N:List NdV) (z:Int) (j:Nat) (hj:j < N.length) (h:∀ i,i < j→(N.getD i znd).1≠z) (he:(N.getD j znd).1=z):findT N z=some (N.getD j znd).2:=by
 have ej:N.getD j znd=N[j]:=by rw [List.getD_eq_getElem?_getD,List.getElem?_eq_getElem hj,Option.getD_some]
 unfold findT
 have e:N.find? (fun n=>n.1 == z)=some N[j]:=by
  rw [List.find?_eq_some_iff_getElem]
  rw [ej] at he
  refine ⟨by simp [he],j,hj,rfl,fun i hi=>?_⟩
  have g:=h i hi
  have ei:N.getD i znd=N[i]:=by rw [List.getD_eq_getElem?_getD,List.getElem?_eq_getElem (by omega),Option.getD_some]
  rw [ei] at g
  simp [g]
 rw [e,ej]
 rfl
theorem find_end (N:List NdV) (z:Int) (h:∀ i,i < N.length→(N.getD i znd).1≠z):findT N z=none:=by
 unfold findT
 rw [List.find?_eq_none.2]
 ·rfl
 ·intro n hn e
  obtain ⟨i,hi,e2⟩:=List.mem_iff_getElem.1 hn
  have g:=h i hi
  rw [List.getD_eq_getElem?_getD,List.getElem?_eq_getElem hi,Option.getD_some,e2] at g
  exact g (by simpa using e)
def nxtC (C:List ChV) (j:Nat):Int:=if j=0 then 0 else (C.getD (j - 1) zch).1+1
def okCh (p:Nat) (C:List ChV) (j:Nat):Prop:=nxtC C j≤(C.getD j zch).1∧(C.getD j zch).1 < (p:Int)∧(C.getD j zch).2.length=256
theorem rise_iff (p:Nat) (C:List ChV):riseT p C ↔ ∀ j,j < C.length→okCh p C j:=by
 constructor
 ·intro h j hj
  obtain ⟨⟨a,b⟩,c,d⟩:=h j hj
  refine ⟨?_,b,c⟩
  unfold nxtC
  by_cases e:j=0
  ·rw [if_pos e];exact a
  ·rw [if_neg e];have:=d (by omega);omega
 ·intro h
  have hlo:∀ j,j < C.length→0≤(C.getD j zch).1:=by
   intro j
   induction j with
   | zero=>intro hj;have:=(h 0 hj).1;unfold nxtC at this;rw [if_pos rfl] at this;exact this
   | succ j ih=>
    intro hj
    have a:=(h (j+1) hj).1
    unfold nxtC at a
    rw [if_neg (by omega),Nat.add_sub_cancel] at a
    have:=ih (by omega)
    omega
  intro j hj
  obtain ⟨a,b,c⟩:=h j hj
  refine ⟨⟨hlo j hj,b⟩,c,fun h0=>?_⟩
  unfold nxtC at a
  rw [if_neg (by omega)] at a
  omega
theorem nxt_le (p:Nat) (C:List ChV) (j:Nat) (_hj:j≤C.length) (h:∀ i,i < j→okCh p C i):0≤nxtC C j∧nxtC C j≤(p:Int):=by
 have hlo:∀ i,i < j→0≤(C.getD i zch).1:=by
  intro i
  induction i with
  | zero=>intro hi;have:=(h 0 hi).1;unfold nxtC at this;rw [if_pos rfl] at this;exact this
  | succ i ih=>
   intro hi
   have a:=(h (i+1) hi).1
   unfold nxtC at a
   rw [if_neg (by omega),Nat.add_sub_cancel] at a
   have:=ih (by omega)
   omega
 unfold nxtC
 by_cases e:j=0
 ·rw [if_pos e];omega
 ·rw [if_neg e]
  have a:=hlo (j - 1) (by omega)
  have b:=(h (j - 1) (by omega)).2.1
  omega
end Sha
end Go.Proofs.YtplmfmpbkjnbaaaGreatDoor
namespace Go.Proofs.YtplmfmpbkjnbaaaGreatDoor
namespace Sha
open Go.RowKit Mem
structure Rd6 (s:St6) (B:Lb8):Prop where
 len:B.length=s.b.length
 rd:∀ n,n < s.n→stRead s n=blkOf B n
theorem Rd6.nil {s:St6} (h:s.w=[]):Rd6 s s.b:=⟨rfl,fun n _=>by unfold stRead;rw [h];rfl⟩
section
end
end Sha
end Go.Proofs.YtplmfmpbkjnbaaaGreatDoor
namespace Go.Proofs.YtplmfmpbkjnbaaaGreatDoor
namespace Sha
open Go.RowKit Mem
def TT (w:World):Prop:=Tabs w∧CTabs w
theorem TT.below {w w':World} (h:TT w) (hb:Below w.heap.size w w'):TT w':=⟨h.1.below hb (Nat.le_refl _),h.2.below hb (Nat.le_refl _)⟩
end Sha
end Go.Proofs.YtplmfmpbkjnbaaaGreatDoor
namespace Go.Proofs.YtplmfmpbkjnbaaaGreatDoor
namespace Sha
open Go.RowKit Mem
set_option maxRecDepth 100000
theorem chg_none {w w':World} (h:Chg (fun _=>False) w w'):Below w.heap.size w w':=h.below (Below.refl _ _) (fun _ h=>h.elim) (Nat.le_refl _)
def ptRow (q:Nat) (v:Value):Array Value:=#[.int .i64 (q:Int),v]
theorem lput_at {G:Foot} {w:World} {a:Option Addr} {cap n:Nat} {l:List (Nat × Lb8)} (h:WPut G w (.slice a n cap) l) {j:Nat} (hj:j < l.length) :
 ∃ b o vh,a=some ⟨b,o,none⟩∧G b∧w.cell? ⟨b,o+j*2,none⟩=some (.int .i64 (((l.getD j (0,[])).1:Nat):Int))∧w.cell? ⟨b,o+j*2+1,none⟩=some vh∧SlB G w vh (l.getD j (0,[])).2:=by
 obtain ⟨ws,he,hl,a',cap',e,hc,hr⟩:=h
 injection e with e1 e2 _
 obtain ⟨b,o,ea,hG,_,hcell⟩:=hr (by omega)
 obtain ⟨p,hp,hp1,hp2⟩:=he.at (List.getElem?_eq_getElem hj)
 have h2:=putC_at ws j p hp
 have hd:l.getD j (0,[])=l[j]:=by rw [List.getD_eq_getElem?_getD,List.getElem?_eq_getElem hj];rfl
 refine ⟨b,o,p.2,by rw [e1];exact ea,hG,?_,?_,by rw [hd];exact hp2⟩
 ·rw [hd,←hp1,Nat.mul_comm];exact hcell _ _ h2.1
 ·have:=hcell _ _ h2.2
  rw [Nat.add_assoc,Nat.mul_comm];exact this
end Sha
end Go.Proofs.YtplmfmpbkjnbaaaGreatDoor
namespace Go.Proofs.YtplmfmpbkjnbaaaGreatDoor
namespace Sha
open Go.RowKit Mem
set_option maxRecDepth 100000
theorem at_ne {w:World} {a b:Nat} {C D:Array Value} {s t:TypeId} (h:At w a C s) (k:At w b D t) (hne:s≠t):a≠b:=by
 rintro rfl
 unfold At at h k
 rw [h] at k
 injection k with k
 injection k with _ k2
 exact hne k2
structure MkI (w1 w:World) (bp br:Nat) (vp vr:Value) (D:Foot) (ws:List (Nat × Value)) (L:List (Nat × Lb8)) (R:List RefV):Prop where
 b:Below w1.heap.size w1 w
 gp:w1.heap.size≤bp
 gr:w1.heap.size≤br
 pb:At w bp #[vp] 44
 rb:At w br #[vr] 60
 e:Each2 (fun p q=>p.1=q.1∧SlB D w p.2 q.2) ws L
 po:w.ownsRow w1.heap.size 70 2 vp L.length (putC ws)
 ro:w.ownsRow w1.heap.size 46 34 vr R.length (refCs R)
 d:∀ k,D k→w1.heap.size≤k∧k < w.heap.size∧k≠bp∧k≠br∧vp.ownBlock≠some k∧vr.ownBlock≠some k
section
variable {w1 w w2 w3 w5 w6:World} {bp br:Nat} {vp vr vp' vr' v2:Value} {D G:Foot} {ws:List (Nat × Value)} {L:List (Nat × Lb8)} {R:List RefV}
theorem MkI.below (h:MkI w1 w bp br vp vr D ws L R) (hb:Below w.heap.size w w2):MkI w1 w2 bp br vp vr D ws L R:=
 ⟨h.b.trans (hb.mono h.b.size),h.gp,h.gr,h.pb.below hb h.pb.lt,h.rb.below hb h.rb.lt,h.e.mono fun _ _ x=>⟨x.1,x.2.keep hb.size fun k _ hl=>hb.block k hl⟩,ownsRow_below h.po hb,ownsRow_below h.ro hb,
  fun k hk=>let ⟨a,b,c⟩:=h.d k hk;⟨a,Nat.lt_of_lt_of_le b hb.size,c⟩⟩
theorem MkI.put {q:Nat} {x:Lb8} (h:MkI w1 w bp br vp vr D ws L R) (hb:Below w.heap.size w w2) (hs:SlB G w2 v2 x) (hG:∀ k,G k→w.heap.size≤k∧k < w2.heap.size) (hb3:Below w2.heap.size w2 w3) (ha:App w3 w5 vp vp') (hb5:Below w1.heap.size w3 w5)
 (ho:w5.ownsRow w1.heap.size 70 2 vp' (L.length+1) (putC ws++[.int .i64 (q:Int),v2])) (hA:At w6 bp #[vp'] 44) (hk:∀ k,k≠bp→w6.heap[k]?=w5.heap[k]?) (hB:∀ B a,Below B a w5→B≤bp→Below B a w6) :
 MkI w1 w6 bp br vp' vr (fun k=>D k∨G k) (ws++[(q,v2)]) (L++[(q,x)]) R:=by
 have hb13:Below w.heap.size w w3:=hb.trans (hb3.mono hb.size)
 have z1:=h.b.size;have z2:=hb.size;have z3:=hb3.size;have z5:=ha.size
 have z6:w5.heap.size≤w6.heap.size:=(hB 0 w5 (Below.refl _ _) (Nat.zero_le _)).size
 have hbp:=h.pb.lt;have hbr:=h.rb.lt
 have nep:vp.ownBlock≠some bp:=own_ne_at h.po h.pb (by decide)
 have ner:vp.ownBlock≠some br:=own_ne_at h.po h.rb (by decide)
 have nrp:vr.ownBlock≠some bp:=own_ne_at h.ro h.pb (by decide)
 have nbr:bp≠br:=at_ne h.pb h.rb (by decide)
 have hlp:=fun k hk=>(World.ownsRow.lt h.po k hk).2
 have hlr:=fun k hk=>(World.ownsRow.lt h.ro k hk).2
 have keep:∀ k,k < w.heap.size→k≠bp→vp.ownBlock≠some k→w6.heap[k]?=w.heap[k]?:=fun k hl h1 h2=>by
  rw [hk k h1,ha.k k (by omega) h2,hb13.block k hl]
 have keep2:∀ k,w.heap.size≤k→k < w2.heap.size→w6.heap[k]?=w2.heap[k]?:=fun k h1 hl=>by
  rw [hk k (by omega),ha.k k (by omega) (fun e=>by have:=hlp k e;omega),hb3.block k hl]
 have hp5:At w5 bp #[vp] 44:=at_appd (h.pb.below hb13 hbp) ha nep
 have nep5:vp'.ownBlock≠some bp:=own_ne_at ho hp5 (by decide)
 refine ⟨hB _ _ (((h.b.trans (hb.mono z1)).trans (hb3.mono (by omega))).trans hb5) h.gp,h.gp,h.gr,hA,?_,?_,?_,?_,?_⟩
 ·have:=h.rb
  unfold At at *
  rw [keep br hbr (fun e=>nbr e.symm) ner];exact this
 ·refine Each2.snoc ⟨rfl,?_⟩ (h.e.mono fun p r hx=>⟨hx.1,?_⟩)
  ·exact ((hs.keep (by omega) fun k hg hl=>keep2 k (hG k hg).1 hl).mono fun k hg _=>.inr hg)
  ·refine ((hx.2.keep (by omega) fun k hd hl=>?_).mono fun k hd _=>.inl hd)
   obtain ⟨_,_,d3,_,d5,_⟩:=h.d k hd
   exact keep k hl d3 d5
 ·rw [putC_snoc,List.length_append]
  exact ownsRow_keep ho fun g hg=>hk g (fun e=>nep5 (by rw [←e];exact hg))
 ·refine ownsRow_keep h.ro fun g hg=>keep g (hlr g hg) (fun e=>nrp (by rw [←e];exact hg)) ?_
  exact fun e=>ownsRow_ne h.po h.ro (by decide) g e hg
 ·intro k hk2
  have hnew:∀ k,k < w2.heap.size→vp.ownBlock≠some k→vp'.ownBlock≠some k:=fun k hl hne=>by
   rcases ha.b with e | ⟨g,e,hge⟩
   ·rw [e];exact hne
   ·rw [e];intro c;injection c with c;omega
  rcases hk2 with hd | hg
  ·obtain ⟨d1,d2,d3,d4,d5,d6⟩:=h.d k hd
   exact ⟨d1,by omega,d3,d4,hnew k (by omega) d5,d6⟩
  ·obtain ⟨g1,g2⟩:=hG k hg
   exact ⟨by omega,by omega,by omega,by omega,hnew k g2 (fun e=>by have:=hlp k e;omega),fun e=>by have:=hlr k e;omega⟩
end
theorem elemPt:elemR Tryz.prog 44 70 (.agg #[.int .i64 0,.slice none 0 0]) 2 32:=⟨Tryz.underlying44,by kernel_rfl⟩
theorem infoPts:(Tryz.prog.info? 44).map (·.size)=some 1:=by kernel_rfl
theorem buildPt (q:Nat) (a2:Option Addr) (l c:Nat) (wx:World):(Instr.build 70 #[(0,.int .i64 (q:Int)),(1,.slice a2 l c)]).run Tryz.prog wx=.ok (.agg (ptRow q (.slice a2 l c))) wx:=by
 unfold ptRow
 kernel_rfl
theorem builtPt (q:Nat) (a2:Option Addr) (l c:Nat):Tryz.prog.builtSlice 70 1 [(0,.agg (ptRow q (.slice a2 l c)))]=some (ptRow q (.slice a2 l c)):=by
 unfold ptRow
 kernel_rfl
end Sha
end Go.Proofs.YtplmfmpbkjnbaaaGreatDoor
namespace Go.Proofs.YtplmfmpbkjnbaaaGreatDoor
namespace Sha
open Go.RowKit Mem
set_option maxRecDepth 100000
theorem isPlace16_any (z:Int) (w:World):Calls Tryz.prog 50 #[.int .i64 z] w fun e w'=>e=.returned (.bool (decide (0≤z∧z≤1)))∧w'=w:=by
 by_cases h1:0≤z
 ·by_cases h6:z≤1
  ·rw [decide_eq_true ⟨h1,h6⟩]
   go_enter Tryz.func50,Tryz.ntmps50
   go_wp2_with fail
   go_ret
   exact ⟨rfl,rfl⟩
  ·rw [decide_eq_false (fun h=>h6 h.2)]
   go_enter Tryz.func50,Tryz.ntmps50
   go_wp2_with fail
   go_ret
   exact ⟨rfl,rfl⟩
 ·rw [decide_eq_false (fun h=>h1 h.1)]
  go_enter Tryz.func50,Tryz.ntmps50
  go_wp2_with fail
  go_ret
  exact ⟨rfl,rfl⟩
theorem havePl_any (L:List RefV) (v:Value) (w:World) (hv:SlRf w v L) (hw:∀ r∈L,r.Wf) (hl:L.length≤1000):Calls Tryz.prog 98 #[v] w (VEnd (.bool (L.all plOk)) w):=by
 obtain ⟨a,c,rfl⟩:=hv.hd
 have hgw:=fun i=>getD_wf hw i
 have hno:∀ i,i < L.length→plOk (L.getD i zref)=false→L.all plOk=false:=fun i hi h=>by
  rw [List.all_eq_false]
  refine ⟨L.getD i zref,?_,by rw [h];decide⟩
  rw [List.getD_eq_getElem?_getD,List.getElem?_eq_getElem hi]
  exact List.getElem_mem hi
 have hyes:(∀ i,i < L.length→plOk (L.getD i zref)=true)→L.all plOk=true:=fun h=>by
  rw [List.all_eq_true]
  intro r hr
  obtain ⟨i,hi,e⟩:=List.mem_iff_getElem.1 hr
  have:=h i hi
  rw [List.getD_eq_getElem?_getD,List.getElem?_eq_getElem hi,Option.getD_some,e] at this
  exact this
 obtain ⟨Y,hY⟩:∃ Y,Y=L.all plOk:=⟨_,rfl⟩
 rw [←hY] at hno hyes ⊢
 obtain ⟨n,hn⟩:∃ n,n=L.length:=⟨_,rfl⟩
 rw [←hn] at hv hl hno hyes ⊢
 have ip:=fun i wx=>isPlace16_any (L.getD i zref).pl wx
 have HV:=zh hv;have GW:=zh hgw;have NO:=zh hno;have YES:=zh hyes;have HN:=zh hn;have IP:=zh ip
 clear hv hgw hno hyes hn ip hY hw
 go_enter Tryz.func98,Tryz.ntmps98
 go_wp2_with fail
 go_loopw [7] (fun vi wr=>∃ i:Nat,i≤n∧vi=.int .i64 (i:Int)∧(∀ k,k < i→plOk (L.getD k zref)=true)∧Below w.heap.size w wr) (fun vi _=>n - (intOf vi).toNat)
 case atStart=>exact ⟨0,by omega,rfl,fun k hk=>by omega,Below.refl _ _⟩
 case round=>
  obtain ⟨i,hi,rfl,hpl,hbw⟩:=hrel
  have BW:=zh hbw;have PL:=zh hpl;have VW:=zh (HV.out.below hbw)
  clear hpl hbw
  by_cases hlt:i < n
  ·have hlt2:(i:Int) < (n:Int):=by omega
   obtain ⟨b,o,ea,_,hr⟩:=slrf_at (i:=i) VW.out HN.out hlt
   subst ea
   have hwi:=GW.out i
   have hip:=IP.out i
   have hpd:plOk (L.getD i zref)=decide (0≤(L.getD i zref).pl∧(L.getD i zref).pl≤1):=rfl
   have hnoi:=NO.out i hlt
   obtain ⟨r,hr0⟩:∃ r,r=L.getD i zref:=⟨_,rfl⟩
   have PS:Hid (plOk r=true→∀ k,k < i+1→plOk (L.getD k zref)=true):=zh (fun h k hk=>by
    rcases Nat.lt_or_ge k i with x | x
    ·exact PL.out k x
    ·rw [show k=i by omega,←hr0];exact h)
   rw [←hr0] at hr hwi hip hpd hnoi
   have r0:=ref0 r
   obtain ⟨M,hM⟩:∃ M,M=refC r:=⟨_,rfl⟩
   have ms:M.size=34:=by rw [hM];exact refC_size hwi
   have mo:M.all (·.oneCell')=true:=by rw [hM];exact refC_one r
   have hx:=zeroRfP
   obtain ⟨Z,hZ⟩:∃ Z,Z=refC zref:=⟨_,rfl⟩
   have zsz:Z.size=34:=by rw [hZ];exact refC_size zref_wf
   have hrg:wr.rangeAt b (o+i*34) M.toList:=by rw [hM];exact hr
   rw [←hM] at r0
   rw [←hZ] at hx
   obtain ⟨pl,hpl⟩:∃ pl,pl=r.pl:=⟨_,rfl⟩
   rw [←hpl] at hip hpd r0
   have MS:=zh ms;have MO:=zh mo;have ZS:=zh zsz;have RG:=zh hrg;have R0:=zh r0;have IPI:=zh hip;have PD:=zh hpd;have NOI:=zh hnoi
   have B3:Hid (Below w.heap.size w (wr.alloc (.cells M 46))):=zh (BW.out.alloc BW.out.size _)
   have A3:=zh (at_new wr M 46)
   clear ms mo zsz hrg r0 hip hpd hnoi hwi hr hM hZ hpl hr0
   go_upto_region 4 with (first
    | (refine wpList_load_mid zr 46 _ zr b (o+i*34) zr M.toList _ RG.out Tryz.underlying46 zr (by rw [infoRfP,Array.length_toList,MS.out]) ?_;rw [Array.toArray_toList])
    | (refine wpList_store_new zr 46 _ _ zr zr M _ _ zr zr (by rw [MS.out];exact infoRfP) (by rw [MS.out,ZS.out]) MO.out ?_))
   clear hx
   obtain ⟨l,hl⟩:∃ l,l=wr.heap.size:=⟨_,rfl⟩
   rw [←hl] at A3 ⊢
   clear hl
   generalize (wr.alloc (.cells M 46))=w3 at *
   have c0:w3.cell? ⟨l,0,none⟩=some (.int .i64 pl):=(A3.out.cell 0).trans R0.out
   go_wp2_with fail
   refine (IPI.out _).mono ?_
   rintro e w4 ⟨rfl,rfl⟩
   rw [←PD.out]
   clear c0
   by_cases hy:plOk r=true
   ·have PS2:=zh (PS.out hy)
    rw [hy]
    go_wp2_with fail
    go_roundw
    case rel=>exact ⟨i+1,by omega,by go_num,PS2.out,B3.out⟩
    case measure=>simp [intOf];omega
   ·have hy:plOk r=false:=by cases h:plOk r with
     | true=>exact absurd h hy
     | false=>rfl
    have NOI2:=zh (NOI.out hy)
    rw [hy]
    go_wp2_with fail
    go_ret
    exact ⟨by rw [NOI2.out];rfl,B3.out⟩
  ·have hin:i=n:=by omega
   subst hin
   have HY:=zh (YES.out PL.out)
   have hge:¬ (i:Int) < (i:Int):=by omega
   go_wp2_with fail
   go_ret
   exact ⟨by rw [HY.out];rfl,BW.out⟩
theorem run_eqnil_rf (w:World) (a:Option Addr) (n c n' c':Nat):(binOp .eql 60 (.slice a n c) (.slice none n' c')).run Tryz.prog w=.ok (.bool a.isNone) w:=Lib.run_eql_slice_nil w _ _ a n c n' c' Tryz.underlying60
theorem slrf_rd {w:World} {a:Option Addr} {n c:Nat} {L:List RefV} (h:SlRf w (.slice a n c) L) (hw:∀ r∈L,r.Wf) (hn:n=L.length):RdR w 34 (.slice a n c) n (refCs L):=by
 have hl:=refCs_length L hw
 refine ⟨by rw [hl,hn],a,c,rfl,fun hne=>?_⟩
 obtain ⟨b,o,ea,_,_⟩:=slrf_at (i:=0) h hn (by omega)
 subst ea
 refine ⟨_,rfl,fun j u hu=>?_⟩
 have hj:j < L.length*34:=by rw [←hl];exact (List.getElem?_eq_some_iff.1 hu).1
 have hi:j / 34 < L.length:=by omega
 have g:=slrf_cell (i:=j / 34) h hn (by omega) (j % 34) u (by
  rw [←refCs_get L hw (j / 34) (j % 34) hi (by omega),show j / 34*34+j % 34=j by omega];exact hu)
 have e:o+j / 34*34+j % 34=o+j:=by omega
 rw [e] at g
 rw [Addr.add_mid];exact g
theorem refCs_one (L:List RefV):∀ u∈refCs L,u.oneCell'=true:=by
 intro u hu
 unfold refCs at hu
 obtain ⟨r,_,h⟩:=List.mem_flatMap.1 hu
 exact refL_one r u h
theorem slrf_none {w:World} {n c:Nat} {L:List RefV} (h:SlRf w (.slice none n c) L):L=[]:=by
 obtain ⟨a,cap,e,hr⟩:=h
 rcases L with _ | ⟨x,L⟩
 ·rfl
 ·injection e with e1 _ _
  obtain ⟨b,o,ea,_⟩:=hr (by simp)
  rw [←e1] at ea
  cases ea
theorem pcloneRf_any (L:List RefV) (v:Value) (w:World) (hv:SlRf w v L) (hw:∀ r∈L,r.Wf) (hl:L.length≤1000):Calls Tryz.prog 125 #[v] w fun e w'=>∃ v',e=.returned v'∧OwnRf w' w.heap.size 46 v' L∧Below w.heap.size w w':=by
 have q42:=run_eqnil_rf
 obtain ⟨a0,cap,rfl⟩:=hv.hd
 cases a0 with
 | none=>
  have hl0:=slrf_none hv
  subst hl0
  clear hv hw hl
  go_enter Tryz.func125,Tryz.ntmps125
  go_wp2
  go_ret
  exact ⟨_,rfl,World.ownsRow_nil _ _ _ _,Below.refl _ _⟩
 | some ad=>
  have hsl:SlRf (w.alloc (.cells #[] 46)) (.slice (some ad) L.length cap) L:=hv.below ((Below.refl _ _).alloc (Nat.le_refl _) _)
  have hb0:Below w.heap.size w (w.alloc (.cells #[] 46)):=(Below.refl _ _).alloc (Nat.le_refl _) _
  have how:(w.alloc (.cells #[] 46)).ownsRow w.heap.size 46 34 (.slice (some ⟨w.heap.size,0,none⟩) 0 0) 0 []:=own_none w w.heap.size (Nat.le_refl _)
  have hrd:=slrf_rd hsl hw rfl
  have ho1:=refCs_one L
  obtain ⟨m,hm⟩:∃ m,m=L.length:=⟨_,rfl⟩
  rw [←hm] at hrd hl ⊢
  have RD:=zh hrd;have HM:=zh hm;have HB:=zh hb0;have HO:=zh how;have O1:=zh ho1
  clear hv hm hsl hb0 how hrd ho1
  go_enter Tryz.func125,Tryz.ntmps125
  go_wp2_with (at_builtin;go_loud (refine wpList_append_app zr _ _ 60 zr (.slice (some ad) m cap) 0 m 34 (refCs L) (.agg (refC zref)) 48 elemRP (refC_size zref_wf) (by decide) zr HO.out zr RD.out O1.out (by omega) (by omega) HB.out.size ?_);intro v5 w5 ho5 ha5 hb5;have O5:=zh ho5;have B5:=zh (HB.out.trans hb5);clear ho5 ha5 hb5)
  go_ret
  refine ⟨_,rfl,?_,B5.out⟩
  have h:=O5.out
  rw [List.nil_append,Nat.zero_add,HM.out] at h
  exact h
def needI (p:Nat) (L:List Int):List Int:=(needT p L).map fun (i:Nat)=>(i:Int)
theorem needT_lt (p:Nat) (L:List Int):(needT p L).Pairwise (· < ·):=List.Pairwise.filter _ List.pairwise_lt_range
theorem needI_le (p:Nat) (L:List Int):(needI p L).Pairwise (·≤·):=by
 unfold needI
 rw [List.pairwise_map]
 exact (needT_lt p L).imp fun h=>by omega
theorem needI_nodup (p:Nat) (L:List Int):(needI p L).Nodup:=by
 unfold needI List.Nodup
 rw [List.pairwise_map]
 exact (needT_lt p L).imp fun h=>by omega
theorem mem_needI (p:Nat) (L:List Int) (z:Int):z∈needI p L ↔ ∃ i:Nat,z=(i:Int)∧i < itn p∧isN p L i=true:=by
 unfold needI
 rw [List.mem_map]
 constructor
 ·rintro ⟨i,hi,rfl⟩;exact ⟨i,rfl,(mem_need p L i).1 hi⟩
 ·rintro ⟨i,rfl,hi⟩;exact ⟨i,(mem_need p L i).2 hi,rfl⟩
theorem needT_len (p:Nat) (L:List Int) (h1:p≤216):(needT p L).length≤259:=by
 have h:(needT p L).length≤(List.range (itn p)).length:=List.length_filter_le ..
 rw [List.length_range] at h
 have:=itn_le259 p h1
 omega
theorem needI_len (p:Nat) (L:List Int) (h1:p≤216):(needI p L).length≤259:=by
 unfold needI;rw [List.length_map];exact needT_len p L h1
theorem wz_get (p:Nat) (x:Int) (h1:p≤216) (k:Nat) (hk:k < (WZ p x).length):∃ i:Nat,(WZ p x).getD k 0=(i:Int)∧((i:Int)≠x ↔ p≤i)∧i < itn p:=by
 unfold WZ at *
 split at hk
 ·rename_i hx
  rw [if_pos hx]
  rw [pathZ_length] at hk
  have h0:1≤p:=by omega
  have hl:=itp_lev p x.toNat h0 h1 (by omega) k (by omega)
  refine ⟨itp p x.toNat k,pathZ_get _ _ _ _ hk,?_,?_⟩
  ·by_cases e:k=0
   ·subst e
    have e2:itp p x.toNat 0=x.toNat:=rfl
    omega
   ·have hs:=stn_mono p 1 k (by omega) (by have:=top_le p;omega)
    have e2:stn p 1=p:=rfl
    omega
  ·have hs:=stn_mono p (k+1) (topn p+1) (by omega) (by have:=top_le p;omega)
   unfold itn
   omega
 ·simp at hk
theorem wz_len (p:Nat) (x:Int):(WZ p x).length≤4:=by
 unfold WZ
 split
 ·rw [pathZ_length];have:=top_le p;omega
 ·simp
theorem onW_get (p:Nat) (x:Int) (i:Nat):onW p x i=true ↔ ∃ k,k < (WZ p x).length∧(WZ p x).getD k 0=(i:Int):=by
 unfold onW
 rw [List.contains_iff_mem,List.mem_iff_getElem]
 constructor
 ·rintro ⟨k,hk,e⟩;exact ⟨k,hk,by rw [List.getD_eq_getElem?_getD,List.getElem?_eq_getElem hk];exact e⟩
 ·rintro ⟨k,hk,e⟩;exact ⟨k,hk,by rw [List.getD_eq_getElem?_getD,List.getElem?_eq_getElem hk] at e;exact e⟩
theorem wfI_nat (i:Nat) (h:i≤1000000):wfI (i:Int):=by
 simp [wfI,Lit.wf,IntKind.min,IntKind.max,IntKind.signed,IntKind.bits]
 omega
theorem uUn16:Tryz.prog.underlying 176=some (.map 3 177):=Tryz.underlying176
structure NdI (w0 w:World) (bm:Nat) (M:Array Value) (S:Nat→Prop) (c:Nat):Prop where
 m:∃ n f,MapV w Tryz.prog 3 bm n f∧n≤c∧∀ x:Int,(f x).isSome=true ↔ ∃ i:Nat,x=(i:Int)∧S i
 b:Below w0.heap.size w0 w
 a:At w w0.heap.size M 31
 g:w0.heap.size < bm
theorem NdI.below {w0 w w':World} {bm c:Nat} {M:Array Value} {S:Nat→Prop} (h:NdI w0 w bm M S c) (hb:Below w.heap.size w w'):NdI w0 w' bm M S c:=by
 obtain ⟨⟨n,f,hm,hr⟩,b,a,g⟩:=h
 exact ⟨⟨n,f,hm.below hb hm.lt,hr⟩,b.trans (hb.mono b.size),a.below hb a.lt,g⟩
theorem NdI.alike {w0 w:World} {bm c c':Nat} {M:Array Value} {S S':Nat→Prop} (h:NdI w0 w bm M S c) (hs:∀ i,S i ↔ S' i) (hc:c≤c'):NdI w0 w bm M S' c':=by
 obtain ⟨⟨n,f,hm,hn,hr⟩,b,a,g⟩:=h
 exact ⟨⟨n,f,hm,Nat.le_trans hn hc,fun x=>(hr x).trans ⟨fun ⟨i,e,h⟩=>⟨i,e,(hs i).1 h⟩,fun ⟨i,e,h⟩=>⟨i,e,(hs i).2 h⟩⟩⟩,b,a,g⟩
theorem NdI.put {w0 w w':World} {bm c n:Nat} {f:Int→Option Value} {M:Array Value} {S S':Nat→Prop} {i:Nat} (h:NdI w0 w bm M S c) (hm:MapV w' Tryz.prog 3 bm (n+1) (upd f (i:Int) (some (.agg #[])))) (hn:n≤c) (hr:∀ x:Int,(f x).isSome=true ↔ ∃ i:Nat,x=(i:Int)∧S i)
 (hc:Chg (fun k=>k=bm) w w') (hs:∀ j,S' j ↔ j=i∨S j):NdI w0 w' bm M S' (c+1):=by
 refine ⟨⟨n+1,_,hm,by omega,fun x=>?_⟩,hc.below h.b (fun k e=>by have:=h.g;omega) h.b.size,h.a.chg hc (fun e=>by have:=h.g;omega),h.g⟩
 by_cases e:x=(i:Int)
 ·rw [e,upd_same]
  exact ⟨fun _=>⟨i,rfl,(hs i).2 (.inl rfl)⟩,fun _=>rfl⟩
 ·rw [upd_other _ _ e,hr x]
  constructor
  ·rintro ⟨j,e2,h2⟩;exact ⟨j,e2,(hs j).2 (.inr h2)⟩
  ·rintro ⟨j,e2,h2⟩
   rcases (hs j).1 h2 with g | g
   ·subst g;exact absurd e2 e
   ·exact ⟨j,e2,g⟩
theorem sli_map {w w':World} {v:Value} {l:List Int} {bm n:Nat} {f:Int→Option Value} (h:SlI w v l) (hm:MapV w Tryz.prog 3 bm n f) (hc:Chg (fun k=>k=bm) w w'):SlI w' v l:=by
 obtain ⟨a,cap,e,hcap,hr⟩:=h
 refine ⟨a,cap,e,hcap,fun hne=>?_⟩
 obtain ⟨b,o,ea,hlt,hcell⟩:=hr hne
 have hbm:¬ b=bm:=fun eb=>by
  have h0:=hcell 0 (List.length_pos_iff.2 hne)
  rw [eb,hm.cell] at h0
  cases h0
 refine ⟨b,o,ea,Nat.lt_of_lt_of_le hlt hc.size,fun i hi=>?_⟩
 rw [World.cell?_of_block (w:=w) (w':=w') (a:=⟨b,o+i,none⟩) (hc.block b hlt hbm)]
 exact hcell i hi
theorem OwnV.base {w:World} {B B':Nat} {e:TypeId} {v:Value} {xs:List Value} (h:OwnV w B e v xs) (hb:B'≤B):OwnV w B' e v xs:=ownsRow_base h hb
theorem pneed_any (p:Nat) (L:List Int) (v:Value) (w:World) (hv:SlI w v L) (h1:p≤216) (hl:L.length≤1000):Calls Tryz.prog 49 #[.agg (psC p),v] w fun e w'=>∃ v',e=.returned v'∧OwnV w' w.heap.size 3 v' (iz (needI p L))∧Below w.heap.size w w':=by
 have pth:=fun z wx=>ppath_any p z wx h1
 obtain ⟨av,cv,rfl⟩:=hv.hd
 have hwg:=fun x k hk=>wz_get p x h1 k hk
 have hwl:=fun x=>wz_len p x
 have IB:=zh (itn_le259 p h1)
 have how:=fun x i=>onW_get p x i
 obtain ⟨on,hon⟩:∃ f,f=onW p:=⟨_,rfl⟩
 obtain ⟨WY,hWY⟩:∃ f,f=WZ p:=⟨_,rfl⟩
 have hend:∀ (wx:World) (bm:Nat) (M:Array Value),NdI w wx bm M (fun i=>p≤i∧∃ t,t < L.length∧on (L.getD t 0) i=true) (4*L.length)→∃ n f,MapV wx Tryz.prog 3 bm n f∧∀ x,x∈needI p L ↔ (f x).isSome=true:=fun wx bm M h=>by
  obtain ⟨⟨n,f,hm,_,hr⟩,_⟩:=h
  refine ⟨n,f,hm,fun x=>?_⟩
  rw [hr x,mem_needI]
  refine ⟨fun ⟨i,e,h1,h2⟩=>?_,fun ⟨i,e,h1,h2⟩=>?_⟩
  ·obtain ⟨a,y,hy,b⟩:=(isN_iff p L i).1 h2
   obtain ⟨t,ht,e2⟩:=List.mem_iff_getElem.1 hy
   exact ⟨i,e,a,t,ht,by rw [hon,List.getD_eq_getElem?_getD,List.getElem?_eq_getElem ht,Option.getD_some,e2];exact b⟩
  ·obtain ⟨t,ht,b⟩:=h2
   rw [hon,List.getD_eq_getElem?_getD,List.getElem?_eq_getElem ht,Option.getD_some] at b
   obtain ⟨hx,k,hk,e3⟩:=(onW_iff p _ i).1 b
   have hlv:=itp_lev p (L[t].toNat) (by omega) (by omega) (by omega) k hk
   have hs:=stn_mono p (k+1) (topn p+1) (by omega) (by have:=top_le p;omega)
   exact ⟨i,e,by unfold itn;omega,(isN_iff p L i).2 ⟨h1,_,List.getElem_mem ht,b⟩⟩
 rw [←hon] at how
 rw [←hWY] at pth hwg hwl how
 have hnd:=needI_nodup p L
 have hls:=needI_len p L h1
 have hso:=sortI_sorted (needI_le p L)
 obtain ⟨KS,hKS⟩:∃ K,K=needI p L:=⟨_,rfl⟩
 rw [←hKS] at hnd hls hso hend ⊢
 obtain ⟨n,hn⟩:∃ n,n=L.length:=⟨_,rfl⟩
 rw [←hn] at hv hl hend ⊢
 have ha:=at_new w (psC p) 31
 have hb:Below w.heap.size w (w.alloc (.cells (psC p) 31)):=(Below.refl _ _).alloc (Nat.le_refl _) _
 have ms:(psC p).size=1:=rfl
 have hz1:(w.alloc (.cells (psC p) 31)).heap.size=w.heap.size+1:=by simp
 obtain ⟨M,hM⟩:∃ M,M=psC p:=⟨_,rfl⟩
 rw [←hM] at pth ha hb ms hz1 ⊢
 have PTH:=zh pth;have WG:=zh hwg;have WL:=zh hwl;have OW:=zh how;have HE:=zh hend;have ND:=zh hnd;have LS:=zh hls;have SO:=zh hso;have HV:=zh hv;have HN:=zh hn;have HA:=zh ha;have HB:=zh hb;have MS:=zh ms;have Z1:=zh hz1
 clear pth hwg hwl how hend hnd hls hso hv hn ha hb ms hz1 hon hWY hKS hM
 go_enter Tryz.func49,Tryz.ntmps49
 go_upto_region 1 with fail
 generalize w.alloc (.cells M 31)=w1 at *
 have hm2:=mapV_made w1 Tryz.prog 3
 have I2:Hid (NdI w (w1.alloc (.map #[] 0)) w1.heap.size M (fun _=>False) 0):=zh ⟨⟨0,_,hm2,Nat.le_refl _,fun x=>by simp⟩,HB.out.alloc HB.out.size _,HA.out.alloc _,by rw [Z1.out];omega⟩
 clear hm2
 go_upto_region 3 with (refine wpList_mapV_made zr 176 zr ?_)
 obtain ⟨bm,hbm⟩:∃ bm,bm=w1.heap.size:=⟨_,rfl⟩
 rw [←hbm] at I2 ⊢
 clear hbm
 generalize w1.alloc (.map #[] 0)=w2 at *
 go_loopw [13] (fun vi wr=>∃ j:Nat,j≤n∧vi=.int .i64 (j:Int)∧NdI w wr bm M (fun i=>p≤i∧∃ t,t < j∧on (L.getD t 0) i=true) (4*j)) (fun vi _=>n - (intOf vi).toNat)
 case atStart=>exact ⟨0,by omega,rfl,I2.out.alike (fun i=>⟨fun h=>h.elim,fun ⟨_,t,h,_⟩=>by omega⟩) (by omega)⟩
 case round=>
  obtain ⟨j,hj,rfl,hI⟩:=hrel
  have I3:=zh hI;have VW:=zh (HV.out.below hI.b)
  clear hI
  by_cases hlt:j < n
  ·have hlt':(j:Int) < (n:Int):=by omega
   obtain ⟨b1,o1,e1,hlb,cx0⟩:=sli_at (i:=j) VW.out HN.out hlt
   subst e1
   have pj:=fun wx=>PTH.out (L.getD j 0) wx
   have wgj:=fun k hk=>WG.out (L.getD j 0) k hk
   have wlj:=WL.out (L.getD j 0)
   have owj:=fun i=>OW.out (L.getD j 0) i
   have hstep:∀ i,(p≤i∧∃ t,t < j+1∧on (L.getD t 0) i=true) ↔ (p≤i∧∃ t,t < j∧on (L.getD t 0) i=true)∨(p≤i∧on (L.getD j 0) i=true):=fun i=>by
    constructor
    ·rintro ⟨h,t,ht,hh⟩
     by_cases e:t=j
     ·subst e;exact .inr ⟨h,hh⟩
     ·exact .inl ⟨h,t,by omega,hh⟩
    ·rintro (⟨h,t,ht,hh⟩ | ⟨h,hh⟩)
     ·exact ⟨h,t,by omega,hh⟩
     ·exact ⟨h,j,by omega,hh⟩
   obtain ⟨x,hx⟩:∃ x,x=L.getD j 0:=⟨_,rfl⟩
   rw [←hx] at pj wgj wlj owj hstep cx0
   have PJ:=zh pj;have WGJ:=zh wgj;have WLJ:=zh wlj;have OWJ:=zh owj;have ST:=zh hstep
   clear pj wgj wlj owj hstep hx hlb
   obtain ⟨SJ,hSJ⟩:∃ SJ:Nat→Prop,SJ=fun i=>p≤i∧∃ t,t < j∧on (L.getD t 0) i=true:=⟨_,rfl⟩
   rw [←hSJ] at I3
   have HSJ:=zh hSJ
   clear hSJ
   go_wp2_with (refine wpList_load_all zr 31 _ zr w.heap.size zr _ Tryz.underlying31 zr M _ I3.out.a (by rw [MS.out];exact infoPS) ?_)
   refine (PJ.out _).mono ?_
   rintro e w4 ⟨v4,rfl,hs4,hb4⟩
   have I4:=zh (I3.out.below hb4);have S4:=zh hs4
   obtain ⟨a4,c4,e4⟩:=hs4.hd
   subst e4
   obtain ⟨K,hK⟩:∃ K,K=(WY x).length:=⟨_,rfl⟩
   rw [←hK] at S4 WGJ WLJ
   have HK:=zh hK
   rw [←hK]
   have hk4:K≤4:=WLJ.out
   clear hs4 hb4 hK cx0
   go_upto_region 6 with fail
   go_loopw [21] (fun vi wr=>∃ k:Nat,k≤K∧vi=.int .i64 (k:Int)∧SlI wr (.slice a4 K c4) (WY x)∧NdI w wr bm M (fun i=>SJ i∨(p≤i∧∃ k',k' < k∧(WY x).getD k' 0=(i:Int))) (4*j+k)) (fun vi _=>K - (intOf vi).toNat)
   case atStart=>exact ⟨0,by omega,rfl,S4.out,I4.out.alike (fun i=>⟨.inl,fun h=>h.elim id fun ⟨_,k',h,_⟩=>by omega⟩) (by omega)⟩
   case round=>
    obtain ⟨k,hk,rfl,hs,hI⟩:=hrel
    have I5:=zh hI;have S5:=zh hs
    clear hI hs
    by_cases hkt:k < K
    ·have hkt':(k:Int) < (K:Int):=by omega
     obtain ⟨i,hi,hne,hit⟩:=WGJ.out k hkt
     obtain ⟨b2,o2,e2,hlb2,cy0⟩:=sli_at (i:=k) S5.out HK.out hkt
     subst e2
     rw [hi] at cy0
     have hstk:∀ i',(SJ i'∨(p≤i'∧∃ k',k' < k+1∧(WY x).getD k' 0=(i':Int))) ↔ (SJ i'∨(p≤i'∧∃ k',k' < k∧(WY x).getD k' 0=(i':Int)))∨(p≤i'∧i'=i):=fun i'=>by
      constructor
      ·rintro (h | ⟨h,k',hk',hh⟩)
       ·exact .inl (.inl h)
       ·by_cases e:k'=k
        ·subst e;exact .inr ⟨h,by omega⟩
        ·exact .inl (.inr ⟨h,k',by omega,hh⟩)
      ·rintro ((h | ⟨h,k',hk',hh⟩) | ⟨h,e⟩)
       ·exact .inl h
       ·exact .inr ⟨h,k',by omega,hh⟩
       ·exact .inr ⟨h,k,by omega,by rw [hi,e]⟩
     have STK:=zh hstk;have HNE:=zh hne;have HWF:=zh (wfI_nat i (by have:=IB.out;omega))
     clear hstk hne hi hlb2
     obtain ⟨z,hz⟩:∃ z:Int,z=(i:Int):=⟨_,rfl⟩
     rw [←hz] at cy0
     have HZ:=zh hz
     clear hz
     by_cases hzx:z=x
     ·have hzx2:(z == x)=true:=by simpa using hzx
      have I6:Hid (NdI w wr bm M (fun i=>SJ i∨(p≤i∧∃ k',k' < k+1∧(WY x).getD k' 0=(i:Int))) (4*j+(k+1))):=zh (I5.out.alike (fun i'=>by
       rw [STK.out i']
       refine ⟨.inl,fun h=>h.elim id fun ⟨h1,h2⟩=>?_⟩
       subst h2
       exact absurd ((by rw [←HZ.out];exact hzx):(i':Int)=x) (HNE.out.2 h1)) (by omega))
      clear hzx
      go_wp2_with fail
      go_roundw
      case rel=>exact ⟨k+1,by omega,by go_num,S5.out,I6.out⟩
      case measure=>simp [intOf];omega
     ·have hzx2:(z == x)=false:=by simpa using hzx
      have hpi:p≤i:=HNE.out.1 (by rw [←HZ.out];exact hzx)
      have I50:=I5.out
      obtain ⟨⟨nm,f,hm,hnm,hr⟩,_⟩:=I50
      have HM:=zh hm;have HR:=zh hr;have HNM:=zh hnm
      rw [HZ.out] at cy0 hzx2
      clear hm hr hnm hzx
      go_wp2_with (at_mapUpdate;refine wpList_mapV_put zr 176 _ _ _ zr 177 HM.out (i:Int) (.agg #[]) zr zr zr uInt16 uUn16 (by have:=HNM.out;unfold maxLen;omega) HWF.out ?_;intro w8 hm8 hc8 hz8;have S8:=zh (sli_map S5.out HM.out hc8);have I8:Hid (NdI w w8 bm M (fun i=>SJ i∨(p≤i∧∃ k',k' < k+1∧(WY x).getD k' 0=(i:Int))) (4*j+k+1)):=zh (I5.out.put hm8 HNM.out HR.out hc8 (fun i'=>by rw [STK.out i'];exact ⟨fun h=>h.elim .inr fun g=>.inl g.2,fun h=>h.elim (fun g=>.inr ⟨by rw [g];exact hpi,g⟩) .inl⟩));clear hm8 hc8 hz8)
      go_roundw
      case rel=>exact ⟨k+1,by omega,by go_num,S8.out,I8.out.alike (fun _=>Iff.rfl) (by omega)⟩
      case measure=>simp [intOf];omega
    ·have hkK:k=K:=by omega
     subst hkK
     have hge:¬ (k:Int) < (k:Int):=by omega
     have I7:Hid (NdI w wr bm M (fun i=>p≤i∧∃ t,t < j+1∧on (L.getD t 0) i=true) (4*(j+1))):=zh (I5.out.alike (fun i=>by
      rw [ST.out i,HSJ.out,OWJ.out i,HK.out]) (by omega))
     go_wp2_with fail
     go_roundw
     case rel=>exact ⟨j+1,by omega,by go_num,I7.out⟩
     case measure=>simp [intOf];omega
  ·have hjn:j=n:=by omega
   subst hjn
   have hge:¬ (j:Int) < (j:Int):=by omega
   obtain ⟨nm,f,hm,hks⟩:=HE.out _ _ _ I3.out
   have SRT:=zh (pSortedI_any hm ND.out hks (by have:=LS.out;omega))
   rw [SO.out] at SRT
   have B3:=zh I3.out.b
   clear hm hks
   go_wp2_with fail
   refine (pKeysI_any _ _).mono ?_
   rintro e w5 ⟨rfl,rfl⟩
   go_wp2_with fail
   refine SRT.out.mono ?_
   rintro e w6 ⟨v6,rfl,ho6,hb6⟩
   have O6:=zh (OwnV.base ho6 B3.out.size);have B6:=zh (B3.out.trans (hb6.mono B3.out.size))
   clear ho6 hb6
   go_wp2_with fail
   go_ret
   exact ⟨_,rfl,O6.out,B6.out⟩
def chRow (z:Int) (v:Value):Array Value:=#[.int .i64 z,v]
theorem chRow_one (z:Int) (a:Option Addr) (n c:Nat):(chRow z (.slice a n c)).all (·.oneCell')=true:=by simp [chRow,Value.oneCell']
theorem infoCh16:(Tryz.prog.info? 76).map (·.size)=some 2:=by kernel_rfl
theorem pareCh_any (p:Nat) (C:List ChV) (v:Value) (w:World) (hv:SlCh w v C) (h1:p≤216) (hl:C.length≤1000):Calls Tryz.prog 96 #[.agg (psC p),v] w (VEnd (.bool (decide (riseT p C))) w):=by
 have pg:=fun wx=>ppages_any p wx
 obtain ⟨av,cv,rfl⟩:=hv.hd
 have hno:∀ j,j < C.length→¬ okCh p C j→decide (riseT p C)=false:=fun j hj h=>decide_eq_false fun g=>h ((rise_iff p C).1 g j hj)
 have hyes:(∀ j,j < C.length→okCh p C j)→decide (riseT p C)=true:=fun h=>decide_eq_true ((rise_iff p C).2 h)
 have hnx:=fun j (hj:j≤C.length) h=>nxt_le p C j hj h
 have hok:∀ j,okCh p C j=(nxtC C j≤(C.getD j zch).1∧(C.getD j zch).1 < (p:Int)∧(C.getD j zch).2.length=256):=fun _=>rfl
 have hs1:∀ j,nxtC C (j+1)=(C.getD j zch).1+1:=fun j=>by unfold nxtC;rw [if_neg (by omega),Nat.add_sub_cancel]
 have hn0:nxtC C 0=0:=by unfold nxtC;rw [if_pos rfl]
 obtain ⟨Y,hY⟩:∃ Y,Y=decide (riseT p C):=⟨_,rfl⟩
 rw [←hY] at hno hyes ⊢
 obtain ⟨n,hn⟩:∃ n,n=C.length:=⟨_,rfl⟩
 rw [←hn] at hv hl hno hyes hnx ⊢
 obtain ⟨nxt,hnxt⟩:∃ f:Nat→Int,f=nxtC C:=⟨_,rfl⟩
 rw [←hnxt] at hnx hok hs1 hn0
 obtain ⟨okc,hokc⟩:∃ f:Nat→Prop,f=okCh p C:=⟨_,rfl⟩
 rw [←hokc] at hno hyes hnx hok
 have ha:=at_new w (psC p) 31
 have hb:Below w.heap.size w (w.alloc (.cells (psC p) 31)):=(Below.refl _ _).alloc (Nat.le_refl _) _
 have ms:(psC p).size=1:=rfl
 obtain ⟨M,hM⟩:∃ M,M=psC p:=⟨_,rfl⟩
 rw [←hM] at pg ha hb ms ⊢
 have PG:=zh pg;have HV:=zh hv;have NO:=zh hno;have YES:=zh hyes;have NX:=zh hnx;have OK:=zh hok;have S1:=zh hs1;have N0:=zh hn0;have HN:=zh hn;have HA:=zh ha;have HB:=zh hb;have MS:=zh ms
 clear pg hv hno hyes hnx hok hs1 hn0 hn ha hb ms hY hnxt hokc hM
 go_enter Tryz.func96,Tryz.ntmps96
 go_upto_region 1 with fail
 generalize w.alloc (.cells M 31)=w1 at *
 go_wp2_with fail
 go_loopw [5,10] (fun vn vi wr=>∃ j:Nat,j≤n∧vi=.int .i64 (j:Int)∧vn=.int .i64 (nxt j)∧(∀ i,i < j→okc i)∧Below w.heap.size w wr∧At wr w.heap.size M 31) (fun _ vi _=>n - (intOf vi).toNat)
 case atStart=>exact ⟨0,by omega,rfl,by rw [N0.out],fun i hi=>by omega,HB.out,HA.out⟩
 case round=>
  obtain ⟨j,hj,rfl,rfl,hal,hbw,haw⟩:=hrel
  have BW:=zh hbw;have AL:=zh hal;have AW:=zh haw;have VW:=zh (HV.out.below hbw)
  clear hal hbw haw
  by_cases hlt:j < n
  ·have hlt':(j:Int) < (n:Int):=by omega
   obtain ⟨b1,o1,u,e1,hlb,cz0,cu0,hsu⟩:=slch_at (i:=j) VW.out HN.out hlt
   subst e1
   have hokj:=OK.out j
   have hs:=S1.out j
   have hnj:=NO.out j hlt
   have hnx:=NX.out j hj AL.out
   obtain ⟨x,hx⟩:∃ x,x=(C.getD j zch).2:=⟨_,rfl⟩
   obtain ⟨z,hz⟩:∃ z,z=(C.getD j zch).1:=⟨_,rfl⟩
   rw [←hx,←hz] at hokj
   rw [←hz] at hs
   rw [←hx] at hsu
   obtain ⟨a3,cap3,rfl⟩:=sl_inv hsu
   obtain ⟨m,hm⟩:∃ m,m=x.length:=⟨_,rfl⟩
   rw [←hm] at hokj
   rw [←hm] at cu0
   have cz:wr.cell? ⟨b1,o1+j*2,none⟩=some (.int .i64 z):=by rw [hz];exact cz0
   have cu:wr.cell? ⟨b1,o1+j*2+1,none⟩=some (.slice a3 m cap3):=cu0
   clear cz0 cu0
   have A3:=zh (at_new wr (chRow z (.slice a3 m cap3)) 76)
   have B3:Hid (Below w.heap.size w (wr.alloc (.cells (chRow z (.slice a3 m cap3)) 76))):=zh (BW.out.alloc BW.out.size _)
   have AS3:=zh (AW.out.alloc (.cells (chRow z (.slice a3 m cap3)) 76))
   have OKJ:=zh hokj;have HS:=zh hs;have NOJ:=zh hnj;have NXJ:=zh hnx
   clear hokj hs hnj hnx hsu hx hz hm hlb
   go_upto_region 5 with (refine wpList_store_new zr 76 _ _ zr zr (chRow z (.slice a3 m cap3)) _ _ zr zr (by exact infoCh16) zr (chRow_one _ _ _ _) ?_)
   clear cz cu
   obtain ⟨bx,hbx⟩:∃ bx,bx=wr.heap.size:=⟨_,rfl⟩
   rw [←hbx] at A3 ⊢
   clear hbx
   generalize wr.alloc (.cells (chRow z (.slice a3 m cap3)) 76)=w3 at *
   by_cases g1:z < nxt j
   ·have LT:Hid (decide (z < nxt j)=true):=zh (decide_eq_true g1)
    have HY:=zh (NOJ.out (by rw [OKJ.out];omega))
    clear g1
    refine wp_region_plan_in (fun x'=>Below w3.heap.size w3 x') (.take 0 (.take 1 (.take 2 (.take 3 (.take 4 (.take 5 (.take 6 (.take 7 (.sole 8 (.take 9 (.take 10 (.take 11 (.take 12 (.take 13 (.take 14 (.take 15 (.take 16 .done))))))))))))))))) (by kernel_rfl) (by kernel_rfl) (by kernel_rfl) (Below.refl _ _).drew ?_
    refine plan_field 76 _ 0 bx 0 ⟨bx,0,none⟩ zr zr zr ze (fun wx=>by go_simp) ?_
    (simp only [Mem.zp,Mem.pb,Mem.pc])
    refine plan_cell 3 _ _ (.int .i64 z) _ zr zr zr ze (fun w' hw'=>(hw'.cell (p:=⟨bx,0,none⟩) A3.out.lt).trans ((A3.out.cell 0).trans rfl)) Tryz.underlying3 zr ?_
    (simp only [Mem.zp,Mem.pb,Mem.pc])
    (first | refine Mem.pm1 ?_ | refine Mem.pm2 ?_ | refine Mem.pt ?_ | refine Mem.pf ?_)
    (simp only [Mem.zp,Mem.pb,Mem.pc])
    refine plan_bin _ _ _ _ _ _ _ (.bool true) zr zr zr ze ze (fun wx=>o_ilt1 z (nxt j) true LT.out _ _ _ _ wx) ?_
    (simp only [Mem.zp,Mem.pb,Mem.pc])
    (first | refine Mem.pm1 ?_ | refine Mem.pm2 ?_ | refine Mem.pt ?_ | refine Mem.pf ?_)
    (simp only [Mem.zp,Mem.pb,Mem.pc])
    refine plan_skip zr zr ?_
    (simp only [Mem.zp,Mem.pb,Mem.pc])
    refine plan_skip zr zr ?_
    (simp only [Mem.zp,Mem.pb,Mem.pc])
    refine plan_skip zr zr ?_
    (simp only [Mem.zp,Mem.pb,Mem.pc])
    refine plan_sole_skip zr zr ((Below.refl _ _).drew) ?_
    (simp only [Mem.zp,Mem.pb,Mem.pc])
    refine plan_skip zr zr ?_
    (simp only [Mem.zp,Mem.pb,Mem.pc])
    refine plan_pick_t _ _ _ _ zr zr zr ze ze ?_
    (simp only [Mem.zp,Mem.pb,Mem.pc])
    (first | refine Mem.pm1 ?_ | refine Mem.pm2 ?_ | refine Mem.pt ?_ | refine Mem.pf ?_)
    (simp only [Mem.zp,Mem.pb,Mem.pc])
    refine plan_skip zr zr ?_
    (simp only [Mem.zp,Mem.pb,Mem.pc])
    refine plan_skip zr zr ?_
    (simp only [Mem.zp,Mem.pb,Mem.pc])
    refine plan_skip zr zr ?_
    (simp only [Mem.zp,Mem.pb,Mem.pc])
    refine plan_skip zr zr ?_
    (simp only [Mem.zp,Mem.pb,Mem.pc])
    refine plan_pick_t _ _ _ _ zr zr zr ze ze ?_
    (simp only [Mem.zp,Mem.pb,Mem.pc])
    refine plan_nil ?_
    go_wp2_with fail
    go_ret
    exact ⟨by rw [HY.out];rfl,B3.out.drew⟩
   ·have LT:Hid (decide (z < nxt j)=false):=zh (decide_eq_false g1)
    by_cases g2:(p:Int)≤z
    ·have GE:Hid (decide ((p:Int)≤z)=true):=zh (decide_eq_true g2)
     have HY:=zh (NOJ.out (by rw [OKJ.out];omega))
     clear g1 g2
     refine wp_region_plan_in (fun x'=>Below w3.heap.size w3 x') (.take 0 (.take 1 (.take 2 (.take 3 (.take 4 (.take 5 (.take 6 (.take 7 (.sole 8 (.take 9 (.take 10 (.take 11 (.take 12 (.take 13 (.take 14 (.take 15 (.take 16 .done))))))))))))))))) (by kernel_rfl) (by kernel_rfl) (by kernel_rfl) (Below.refl _ _).drew ?_
     refine plan_field 76 _ 0 bx 0 ⟨bx,0,none⟩ zr zr zr ze (fun wx=>by go_simp) ?_
     (simp only [Mem.zp,Mem.pb,Mem.pc])
     refine plan_cell 3 _ _ (.int .i64 z) _ zr zr zr ze (fun w' hw'=>(hw'.cell (p:=⟨bx,0,none⟩) A3.out.lt).trans ((A3.out.cell 0).trans rfl)) Tryz.underlying3 zr ?_
     (simp only [Mem.zp,Mem.pb,Mem.pc])
     (first | refine Mem.pm1 ?_ | refine Mem.pm2 ?_ | refine Mem.pt ?_ | refine Mem.pf ?_)
     (simp only [Mem.zp,Mem.pb,Mem.pc])
     refine plan_bin _ _ _ _ _ _ _ (.bool false) zr zr zr ze ze (fun wx=>o_ilt1 z (nxt j) false LT.out _ _ _ _ wx) ?_
     (simp only [Mem.zp,Mem.pb,Mem.pc])
     (first | refine Mem.pm1 ?_ | refine Mem.pm2 ?_ | refine Mem.pt ?_ | refine Mem.pf ?_)
     (simp only [Mem.zp,Mem.pb,Mem.pc])
     refine plan_field 76 _ 0 bx 0 ⟨bx,0,none⟩ zr zr zr ze (fun wx=>by go_simp) ?_
     (simp only [Mem.zp,Mem.pb,Mem.pc])
     refine plan_cell 3 _ _ (.int .i64 z) _ zr zr zr ze (fun w' hw'=>(hw'.cell (p:=⟨bx,0,none⟩) A3.out.lt).trans ((A3.out.cell 0).trans rfl)) Tryz.underlying3 zr ?_
     (simp only [Mem.zp,Mem.pb,Mem.pc])
     refine plan_row 31 _ w.heap.size _ M 31 zr zr zr ze (fun w' hw'=>AS3.out.below hw' AS3.out.lt) Tryz.underlying31 zr (by rw [MS.out];exact infoPS) ?_
     (simp only [Mem.zp,Mem.pb,Mem.pc])
     refine plan_call 72 _ _ _ (by kernel_rfl) zr zr zr (by first | exact Mem.ev_none _ | (simp only [List.map_toArray,List.map_cons,List.map_nil,Mem.ev_tmp,List.getD_cons_succ,List.getD_cons_zero] <;> rfl)) ?_
     refine (PG.out _).mono ?_
     rintro e w4 ⟨rfl,hb4⟩
     have D4:Hid (Below w3.heap.size w3 w4):=zh (Below.trans (Below.refl _ _).drew hb4)
     clear hb4
     refine ⟨_,rfl,D4.out,?_⟩
     (simp only [Mem.zp,Mem.pb,Mem.pc])
     refine plan_bin _ _ _ _ _ _ _ (.bool true) zr zr zr ze ze (fun wx=>o_ige1 z (p:Int) true GE.out _ _ _ _ wx) ?_
     (simp only [Mem.zp,Mem.pb,Mem.pc])
     refine plan_pick_f _ _ _ _ zr zr zr ze ze ?_
     (simp only [Mem.zp,Mem.pb,Mem.pc])
     (first | refine Mem.pm1 ?_ | refine Mem.pm2 ?_ | refine Mem.pt ?_ | refine Mem.pf ?_)
     (simp only [Mem.zp,Mem.pb,Mem.pc])
     refine plan_skip zr zr ?_
     (simp only [Mem.zp,Mem.pb,Mem.pc])
     refine plan_skip zr zr ?_
     (simp only [Mem.zp,Mem.pb,Mem.pc])
     refine plan_skip zr zr ?_
     (simp only [Mem.zp,Mem.pb,Mem.pc])
     refine plan_skip zr zr ?_
     (simp only [Mem.zp,Mem.pb,Mem.pc])
     refine plan_pick_t _ _ _ _ zr zr zr ze ze ?_
     (simp only [Mem.zp,Mem.pb,Mem.pc])
     refine plan_nil ?_
     go_wp2_with fail
     go_ret
     exact ⟨by rw [HY.out];rfl,B3.out.trans (D4.out.mono B3.out.size)⟩
    ·have GE:Hid (decide ((p:Int)≤z)=false):=zh (decide_eq_false g2)
     by_cases g3:m=256
     ·have NE:Hid ((m:Int)=256):=zh (by omega)
      have OK2:Hid (okc j):=zh (by rw [OKJ.out];exact ⟨by omega,by omega,g3⟩)
      have h0z:0≤z:=by have:=NXJ.out.1;omega
      have hpz:z < (p:Int):=by omega
      have hp2:(p:Int)≤216:=by omega
      clear g1 g2 g3
      refine wp_region_plan_in (fun x'=>Below w3.heap.size w3 x') (.take 0 (.take 1 (.take 2 (.take 3 (.take 4 (.take 5 (.take 6 (.take 7 (.sole 8 (.take 9 (.take 10 (.take 11 (.take 12 (.take 13 (.take 14 (.take 15 (.take 16 .done))))))))))))))))) (by kernel_rfl) (by kernel_rfl) (by kernel_rfl) (Below.refl _ _).drew ?_
      refine plan_field 76 _ 0 bx 0 ⟨bx,0,none⟩ zr zr zr ze (fun wx=>by go_simp) ?_
      (simp only [Mem.zp,Mem.pb,Mem.pc])
      refine plan_cell 3 _ _ (.int .i64 z) _ zr zr zr ze (fun w' hw'=>(hw'.cell (p:=⟨bx,0,none⟩) A3.out.lt).trans ((A3.out.cell 0).trans rfl)) Tryz.underlying3 zr ?_
      (simp only [Mem.zp,Mem.pb,Mem.pc])
      (first | refine Mem.pm1 ?_ | refine Mem.pm2 ?_ | refine Mem.pt ?_ | refine Mem.pf ?_)
      (simp only [Mem.zp,Mem.pb,Mem.pc])
      refine plan_bin _ _ _ _ _ _ _ (.bool false) zr zr zr ze ze (fun wx=>o_ilt1 z (nxt j) false LT.out _ _ _ _ wx) ?_
      (simp only [Mem.zp,Mem.pb,Mem.pc])
      (first | refine Mem.pm1 ?_ | refine Mem.pm2 ?_ | refine Mem.pt ?_ | refine Mem.pf ?_)
      (simp only [Mem.zp,Mem.pb,Mem.pc])
      refine plan_field 76 _ 0 bx 0 ⟨bx,0,none⟩ zr zr zr ze (fun wx=>by go_simp) ?_
      (simp only [Mem.zp,Mem.pb,Mem.pc])
      refine plan_cell 3 _ _ (.int .i64 z) _ zr zr zr ze (fun w' hw'=>(hw'.cell (p:=⟨bx,0,none⟩) A3.out.lt).trans ((A3.out.cell 0).trans rfl)) Tryz.underlying3 zr ?_
      (simp only [Mem.zp,Mem.pb,Mem.pc])
      refine plan_row 31 _ w.heap.size _ M 31 zr zr zr ze (fun w' hw'=>AS3.out.below hw' AS3.out.lt) Tryz.underlying31 zr (by rw [MS.out];exact infoPS) ?_
      (simp only [Mem.zp,Mem.pb,Mem.pc])
      refine plan_call 72 _ _ _ (by kernel_rfl) zr zr zr (by first | exact Mem.ev_none _ | (simp only [List.map_toArray,List.map_cons,List.map_nil,Mem.ev_tmp,List.getD_cons_succ,List.getD_cons_zero] <;> rfl)) ?_
      refine (PG.out _).mono ?_
      rintro e w4 ⟨rfl,hb4⟩
      have D4:Hid (Below w3.heap.size w3 w4):=zh (Below.trans (Below.refl _ _).drew hb4)
      clear hb4
      refine ⟨_,rfl,D4.out,?_⟩
      (simp only [Mem.zp,Mem.pb,Mem.pc])
      refine plan_bin _ _ _ _ _ _ _ (.bool false) zr zr zr ze ze (fun wx=>o_ige1 z (p:Int) false GE.out _ _ _ _ wx) ?_
      (simp only [Mem.zp,Mem.pb,Mem.pc])
      refine plan_pick_f _ _ _ _ zr zr zr ze ze ?_
      (simp only [Mem.zp,Mem.pb,Mem.pc])
      (first | refine Mem.pm1 ?_ | refine Mem.pm2 ?_ | refine Mem.pt ?_ | refine Mem.pf ?_)
      (simp only [Mem.zp,Mem.pb,Mem.pc])
      refine plan_field 76 _ 1 bx 0 ⟨bx,1,none⟩ zr zr zr ze (fun wx=>by go_simp) ?_
      (simp only [Mem.zp,Mem.pb,Mem.pc])
      refine plan_cell 63 _ _ (.slice a3 m cap3) _ zr zr zr ze (fun w' hw'=>(hw'.cell (p:=⟨bx,1,none⟩) A3.out.lt).trans ((A3.out.cell 1).trans rfl)) Tryz.underlying63 zr ?_
      (simp only [Mem.zp,Mem.pb,Mem.pc])
      refine plan_len _ _ _ _ m _ zr zr zr zr ze (fun wx=>by go_simp) ?_
      (simp only [Mem.zp,Mem.pb,Mem.pc])
      refine plan_bin _ _ _ _ _ _ _ (.bool false) zr zr zr ze zr (fun wx=>o_ineq (m:Int) 256 NE.out _ _ _ _ wx) ?_
      (simp only [Mem.zp,Mem.pb,Mem.pc])
      refine plan_pick_f _ _ _ _ zr zr zr ze ze ?_
      (simp only [Mem.zp,Mem.pb,Mem.pc])
      refine plan_nil ?_
      have c0:w4.cell? ⟨bx,0,none⟩=some (.int .i64 z):=(D4.out.cell (p:=⟨bx,0,none⟩) A3.out.lt).trans ((A3.out.cell 0).trans rfl)
      go_wp2_with fail
      go_roundw
      case rel=>exact ⟨j+1,by omega,by go_num,by rw [HS.out],fun i hi=>(Nat.lt_or_ge i j).elim (AL.out i) (fun h=>by rw [show i=j by omega];exact OK2.out),B3.out.trans (D4.out.mono B3.out.size),AS3.out.below D4.out AS3.out.lt⟩
      case measure=>simp [intOf];omega
     ·have NE:Hid (¬ (m:Int)=256):=zh (by omega)
      have HY:=zh (NOJ.out (by rw [OKJ.out];omega))
      clear g1 g2 g3
      refine wp_region_plan_in (fun x'=>Below w3.heap.size w3 x') (.take 0 (.take 1 (.take 2 (.take 3 (.take 4 (.take 5 (.take 6 (.take 7 (.sole 8 (.take 9 (.take 10 (.take 11 (.take 12 (.take 13 (.take 14 (.take 15 (.take 16 .done))))))))))))))))) (by kernel_rfl) (by kernel_rfl) (by kernel_rfl) (Below.refl _ _).drew ?_
      refine plan_field 76 _ 0 bx 0 ⟨bx,0,none⟩ zr zr zr ze (fun wx=>by go_simp) ?_
      (simp only [Mem.zp,Mem.pb,Mem.pc])
      refine plan_cell 3 _ _ (.int .i64 z) _ zr zr zr ze (fun w' hw'=>(hw'.cell (p:=⟨bx,0,none⟩) A3.out.lt).trans ((A3.out.cell 0).trans rfl)) Tryz.underlying3 zr ?_
      (simp only [Mem.zp,Mem.pb,Mem.pc])
      (first | refine Mem.pm1 ?_ | refine Mem.pm2 ?_ | refine Mem.pt ?_ | refine Mem.pf ?_)
      (simp only [Mem.zp,Mem.pb,Mem.pc])
      refine plan_bin _ _ _ _ _ _ _ (.bool false) zr zr zr ze ze (fun wx=>o_ilt1 z (nxt j) false LT.out _ _ _ _ wx) ?_
      (simp only [Mem.zp,Mem.pb,Mem.pc])
      (first | refine Mem.pm1 ?_ | refine Mem.pm2 ?_ | refine Mem.pt ?_ | refine Mem.pf ?_)
      (simp only [Mem.zp,Mem.pb,Mem.pc])
      refine plan_field 76 _ 0 bx 0 ⟨bx,0,none⟩ zr zr zr ze (fun wx=>by go_simp) ?_
      (simp only [Mem.zp,Mem.pb,Mem.pc])
      refine plan_cell 3 _ _ (.int .i64 z) _ zr zr zr ze (fun w' hw'=>(hw'.cell (p:=⟨bx,0,none⟩) A3.out.lt).trans ((A3.out.cell 0).trans rfl)) Tryz.underlying3 zr ?_
      (simp only [Mem.zp,Mem.pb,Mem.pc])
      refine plan_row 31 _ w.heap.size _ M 31 zr zr zr ze (fun w' hw'=>AS3.out.below hw' AS3.out.lt) Tryz.underlying31 zr (by rw [MS.out];exact infoPS) ?_
      (simp only [Mem.zp,Mem.pb,Mem.pc])
      refine plan_call 72 _ _ _ (by kernel_rfl) zr zr zr (by first | exact Mem.ev_none _ | (simp only [List.map_toArray,List.map_cons,List.map_nil,Mem.ev_tmp,List.getD_cons_succ,List.getD_cons_zero] <;> rfl)) ?_
      refine (PG.out _).mono ?_
      rintro e w4 ⟨rfl,hb4⟩
      have D4:Hid (Below w3.heap.size w3 w4):=zh (Below.trans (Below.refl _ _).drew hb4)
      clear hb4
      refine ⟨_,rfl,D4.out,?_⟩
      (simp only [Mem.zp,Mem.pb,Mem.pc])
      refine plan_bin _ _ _ _ _ _ _ (.bool false) zr zr zr ze ze (fun wx=>o_ige1 z (p:Int) false GE.out _ _ _ _ wx) ?_
      (simp only [Mem.zp,Mem.pb,Mem.pc])
      refine plan_pick_f _ _ _ _ zr zr zr ze ze ?_
      (simp only [Mem.zp,Mem.pb,Mem.pc])
      (first | refine Mem.pm1 ?_ | refine Mem.pm2 ?_ | refine Mem.pt ?_ | refine Mem.pf ?_)
      (simp only [Mem.zp,Mem.pb,Mem.pc])
      refine plan_field 76 _ 1 bx 0 ⟨bx,1,none⟩ zr zr zr ze (fun wx=>by go_simp) ?_
      (simp only [Mem.zp,Mem.pb,Mem.pc])
      refine plan_cell 63 _ _ (.slice a3 m cap3) _ zr zr zr ze (fun w' hw'=>(hw'.cell (p:=⟨bx,1,none⟩) A3.out.lt).trans ((A3.out.cell 1).trans rfl)) Tryz.underlying63 zr ?_
      (simp only [Mem.zp,Mem.pb,Mem.pc])
      refine plan_len _ _ _ _ m _ zr zr zr zr ze (fun wx=>by go_simp) ?_
      (simp only [Mem.zp,Mem.pb,Mem.pc])
      refine plan_bin _ _ _ _ _ _ _ (.bool true) zr zr zr ze zr (fun wx=>o_inet1 (m:Int) 256 NE.out _ _ _ _ wx) ?_
      (simp only [Mem.zp,Mem.pb,Mem.pc])
      refine plan_pick_f _ _ _ _ zr zr zr ze ze ?_
      (simp only [Mem.zp,Mem.pb,Mem.pc])
      refine plan_nil ?_
      go_wp2_with fail
      go_ret
      exact ⟨by rw [HY.out];rfl,B3.out.trans (D4.out.mono B3.out.size)⟩
  ·have hjn:j=n:=by omega
   subst hjn
   have HY:=zh (YES.out AL.out)
   have hge:¬ (j:Int) < (j:Int):=by omega
   go_wp2_with fail
   go_ret
   exact ⟨by rw [HY.out];rfl,BW.out⟩
def ndRow (z:Int) (v:Value):Array Value:=#[.int .i64 z,v]
theorem ndRow_one (z:Int) (a:Option Addr) (n c:Nat):(ndRow z (.slice a n c)).all (·.oneCell')=true:=by simp [ndRow,Value.oneCell']
theorem infoNd16:(Tryz.prog.info? 127).map (·.size)=some 2:=by kernel_rfl
structure NdWf (N:List NdV):Prop where
 n:N.length≤1000
 r:∀ x∈N,x.2.length≤1000
 w:∀ x∈N,∀ r∈x.2,r.Wf
theorem NdWf.get {N:List NdV} (h:NdWf N) (j:Nat) (hj:j < N.length):(N.getD j znd).2.length≤1000∧∀ r∈(N.getD j znd).2,r.Wf:=by
 rw [List.getD_eq_getElem?_getD,List.getElem?_eq_getElem hj]
 exact ⟨h.r _ (List.getElem_mem hj),h.w _ (List.getElem_mem hj)⟩
theorem findD_le {N:List NdV} (h:NdWf N) (z:Int):(findD N z).length≤1000:=by
 unfold findD findT
 cases e:N.find? fun n=>n.1 == z with
 | none=>simp
 | some n=>simpa using h.r n (List.mem_of_find?_eq_some e)
def FdEnd (w:World) (L:List RefV) (q:Bool) (e:Ending) (w':World):Prop:=∃ v,e=.returned (.tuple #[v,.bool q])∧OwnRf w' w.heap.size 46 v L∧Below w.heap.size w w'
theorem pfind_any (N:List NdV) (z:Int) (v:Value) (w:World) (hv:SlNd w v N) (hN:NdWf N):Calls Tryz.prog 97 #[v,.int .i64 z] w (FdEnd w (findD N z) (findT N z).isSome):=by
 obtain ⟨av,cv,rfl⟩:=hv.hd
 have hno:(∀ i,i < N.length→(N.getD i znd).1≠z)→findT N z=none:=find_end N z
 have hyes:=fun j hj h he=>find_step N z j hj h he
 have hfd:findD N z=(findT N z).getD []:=rfl
 obtain ⟨Y,hY⟩:∃ Y,Y=findT N z:=⟨_,rfl⟩
 rw [←hY] at hno hyes hfd ⊢
 obtain ⟨X,hX⟩:∃ X,X=findD N z:=⟨_,rfl⟩
 rw [←hX] at hfd ⊢
 have hget:=hN.get
 have hl:=hN.n
 have clo:=fun j vx wx (hj:j < N.length) (h:SlRf wx vx (N.getD j znd).2)=>pcloneRf_any (N.getD j znd).2 vx wx h (hget j hj).2 (hget j hj).1
 obtain ⟨n,hn⟩:∃ n,n=N.length:=⟨_,rfl⟩
 rw [←hn] at hv hl hno hyes clo ⊢
 have HV:=zh hv;have NO:=zh hno;have YES:=zh hyes;have FD:=zh hfd;have CLO:=zh clo;have HN:=zh hn
 clear hv hno hyes hfd clo hn hget hX hY hN
 go_enter Tryz.func97,Tryz.ntmps97
 go_wp2_with fail
 go_loopw [10] (fun vi wr=>∃ j:Nat,j≤n∧vi=.int .i64 (j:Int)∧(∀ i,i < j→(N.getD i znd).1≠z)∧Below w.heap.size w wr) (fun vi _=>n - (intOf vi).toNat)
 case atStart=>exact ⟨0,by omega,rfl,fun i hi=>by omega,Below.refl _ _⟩
 case round=>
  obtain ⟨j,hj,rfl,hal,hbw⟩:=hrel
  have BW:=zh hbw;have AL:=zh hal;have VW:=zh (HV.out.below hbw)
  clear hal hbw
  by_cases hlt:j < n
  ·have hlt':(j:Int) < (n:Int):=by omega
   obtain ⟨b1,o1,u,e1,hlb,cz0,cu0,hsu⟩:=slnd_at (i:=j) VW.out HN.out hlt
   subst e1
   have hyj:=fun he=>YES.out j hlt AL.out he
   have clo:=fun vx wx h=>CLO.out j vx wx hlt h
   have hne1:(N.getD j znd).1≠z→∀ i,i < j+1→(N.getD i znd).1≠z:=fun h i hi=>(Nat.lt_or_ge i j).elim (AL.out i) (fun g=>by rw [show i=j by omega];exact h)
   obtain ⟨x,hx⟩:∃ x,x=(N.getD j znd).2:=⟨_,rfl⟩
   obtain ⟨y,hy⟩:∃ y,y=(N.getD j znd).1:=⟨_,rfl⟩
   rw [←hx] at hsu clo
   rw [←hy,←hx] at hyj
   rw [←hy] at hne1
   obtain ⟨a3,cap3,e3⟩:=hsu.hd
   subst e3
   have HNE:=zh hne1;have HYJ:=zh hyj;have CLJ:=zh clo
   obtain ⟨m,hm⟩:∃ m,m=x.length:=⟨_,rfl⟩
   have HM:=zh hm
   rw [←hm] at cu0 hsu
   have cz:wr.cell? ⟨b1,o1+j*2,none⟩=some (.int .i64 y):=by rw [hy];exact cz0
   have cu:wr.cell? ⟨b1,o1+j*2+1,none⟩=some (.slice a3 m cap3):=cu0
   clear cz0 cu0
   have hb3:Below wr.heap.size wr (wr.alloc (.cells (ndRow y (.slice a3 m cap3)) 127)):=(Below.refl _ _).alloc (Nat.le_refl _) _
   have A3:=zh (at_new wr (ndRow y (.slice a3 m cap3)) 127)
   have B3:Hid (Below w.heap.size w (wr.alloc (.cells (ndRow y (.slice a3 m cap3)) 127))):=zh (BW.out.alloc BW.out.size _)
   have S3:=zh (hsu.below hb3)
   clear hne1 hyj clo hsu hx hy hm hlb hb3
   go_upto_region 4 with (refine wpList_store_new zr 127 _ _ zr zr (ndRow y (.slice a3 m cap3)) _ _ zr zr (by exact infoNd16) zr (ndRow_one _ _ _ _) ?_)
   clear cz cu
   obtain ⟨bx,hbx⟩:∃ bx,bx=wr.heap.size:=⟨_,rfl⟩
   rw [←hbx] at A3 ⊢
   clear hbx
   generalize wr.alloc (.cells (ndRow y (.slice a3 m cap3)) 127)=w3 at *
   have c0:w3.cell? ⟨bx,0,none⟩=some (.int .i64 y):=(A3.out.cell 0).trans rfl
   have c1:w3.cell? ⟨bx,1,none⟩=some (.slice a3 m cap3):=(A3.out.cell 1).trans rfl
   by_cases hyz:y=z
   ·have HY:=zh (HYJ.out hyz)
    have hyz2:(y == z)=true:=by simpa using hyz
    go_wp2_with fail
    refine (CLJ.out _ _ S3.out).mono ?_
    rintro e w4 ⟨v4,rfl,ho4,hb4⟩
    have O4:=zh (ownsRow_base ho4 B3.out.size);have B4:=zh (B3.out.trans (hb4.mono B3.out.size))
    clear ho4 hb4 c0 c1
    go_wp2_with fail
    go_ret2
    exact ⟨v4,by rw [HY.out];rfl,by rw [FD.out,HY.out];exact O4.out,B4.out⟩
   ·have NE2:=zh (HNE.out hyz)
    have hyz2:(y == z)=false:=by simpa using hyz
    go_wp2_with fail
    go_roundw
    case rel=>exact ⟨j+1,by omega,by go_num,NE2.out,B3.out⟩
    case measure=>simp [intOf];omega
  ·have hjn:j=n:=by omega
   subst hjn
   have HY:=zh (NO.out AL.out)
   have hge:¬ (j:Int) < (j:Int):=by omega
   go_wp2_with fail
   go_ret2
   exact ⟨_,by rw [HY.out];rfl,by rw [FD.out,HY.out];exact World.ownsRow_nil _ _ _ _,BW.out⟩
theorem MkI.out {w1 w w':World} {bp br:Nat} {vp vr:Value} {D:Foot} {ws:List (Nat × Value)} {L:List (Nat × Lb8)} {R:List RefV} (h:MkI w1 w bp br vp vr D ws L R) (hs:w.heap.size≤w'.heap.size) (hk:∀ k,w1.heap.size≤k→k < w.heap.size→w'.heap[k]?=w.heap[k]?):WPut (fun k=>w1.heap.size≤k) w' vp L:=
 ⟨ws,h.e.mono fun _ _ x=>⟨x.1,(x.2.keep hs fun k hd hl=>hk k (h.d k hd).1 hl).mono fun k hd _=>(h.d k hd).1⟩,(ownsRow_slR h.po).keep hs fun k hg hl=>hk k hg hl⟩
theorem buildRf14 (w:World):(Instr.build 46 #[]).run Tryz.prog w=.ok (.agg (refC zref)) w:=by kernel_rfl
end Sha
end Go.Proofs.YtplmfmpbkjnbaaaGreatDoor
namespace Go.Proofs.YtplmfmpbkjnbaaaGreatDoor
namespace Sha
open Go.RowKit Mem
def chVs:List (Int × Value)→List Value
 | []=>[]
 | p::l=>.int .i64 p.1::p.2::chVs l
theorem chVs_snoc (p:Int × Value):∀ l,chVs (l++[p])=chVs l++[.int .i64 p.1,p.2]
 | []=>rfl
 | _::l=>by simp [chVs,chVs_snoc p l]
theorem chVs_at:∀ (l:List (Int × Value)) (i:Nat) (p:Int × Value),l[i]?=some p→(chVs l)[i*2]?=some (.int .i64 p.1)∧(chVs l)[i*2+1]?=some p.2
 | q::l,0,p,h=>by
  have hq:q=p:=by simpa using h
  subst hq
  exact ⟨rfl,rfl⟩
 | q::l,i+1,p,h=>by
  have h':l[i]?=some p:=by simpa using h
  have ih:=chVs_at l i p h'
  have e:chVs (q::l)=.int .i64 q.1::q.2::chVs l:=rfl
  rw [e,show (i+1)*2=i*2+1+1 by omega,show i*2+1+1+1=(i*2+1)+1+1 by omega]
  simpa using ih
structure ElseT {β:Type} (T:Foot→World→Value→β→Prop):Prop where
 keep:∀ D w w' u x,T D w u x→w.heap.size≤w'.heap.size→(∀ k,D k→k < w.heap.size→w'.heap[k]?=w.heap[k]?)→T D w' u x
 mono:∀ D E w u x,T D w u x→(∀ k,D k→k < w.heap.size→E k)→T E w u x
theorem elseB:ElseT (fun D w u (x:Lb8)=>SlB D w u x):=⟨fun _ _ _ _ _ h a b=>h.keep a b,fun _ _ _ _ _ h a=>h.mono a⟩
theorem elseR:ElseT (fun D w u (L:List RefV)=>SlR D w 34 u L.length (refCs L)):=⟨fun _ _ _ _ _ h a b=>SlR.keep h a b,fun _ _ _ _ _ h a=>SlR.mono h a⟩
structure OwnL {β:Type} (T:Foot→World→Value→β→Prop) (w:World) (B:Nat) (t:TypeId) (v:Value) (D:Foot) (ws:List (Int × Value)) (xs:List (Int × β)):Prop where
 e:Each2 (fun (q:Int × Value) (c:Int × β)=>q.1=c.1∧T D w q.2 c.2) ws xs
 o:w.ownsRow B t 2 v xs.length (chVs ws)
 d:∀ k,D k→k < w.heap.size∧v.ownBlock≠some k
section
variable {β:Type} {T:Foot→World→Value→β→Prop} {w w' w3 w5:World} {B:Nat} {t:TypeId} {v v' u:Value} {D G:Foot} {ws:List (Int × Value)} {xs:List (Int × β)} {x:β} {z:Int}
theorem ownL_nil (w:World) (B:Nat) (t:TypeId):OwnL T w B t (.slice none 0 0) (fun _=>False) [] []:=⟨trivial,World.ownsRow_nil _ _ _ _,fun _ h=>h.elim⟩
theorem OwnL.below (h:OwnL T w B t v D ws xs) (E:ElseT T) (hb:Below w.heap.size w w'):OwnL T w' B t v D ws xs:=
 ⟨h.e.mono fun _ _ a=>⟨a.1,E.keep _ _ _ _ _ a.2 hb.size fun k _ hl=>hb.block k hl⟩,ownsRow_below h.o hb,fun k hk=>⟨Nat.lt_of_lt_of_le (h.d k hk).1 hb.size,(h.d k hk).2⟩⟩
theorem OwnL.add (h:OwnL T w B t v D ws xs) (E:ElseT T) (hs:T G w u x) (hG:∀ k,G k→k < w.heap.size∧v.ownBlock≠some k) (hb:Below w.heap.size w w3) (ha:App w3 w5 v v') (ho:w5.ownsRow B t 2 v' (xs.length+1) (chVs ws++[.int .i64 z,u])) :
 OwnL T w5 B t v' (fun k=>D k∨G k) (ws++[(z,u)]) (xs++[(z,x)]):=by
 have s1:=hb.size;have s2:=ha.size
 have keep:∀ k,k < w.heap.size→v.ownBlock≠some k→w5.heap[k]?=w.heap[k]?:=fun k hl hn=>by rw [ha.k k (by omega) hn,hb.block k hl]
 have hh:∀ k,(D k∨G k)→k < w.heap.size∧v.ownBlock≠some k:=fun k hk=>hk.elim (h.d k) (hG k)
 refine ⟨Each2.snoc ⟨rfl,E.mono _ _ _ _ _ (E.keep _ _ _ _ _ hs (by omega) fun k hk hl=>keep k hl (hG k hk).2) fun k hk _=>.inr hk⟩ (h.e.mono fun _ _ a=>⟨a.1,E.mono _ _ _ _ _ (E.keep _ _ _ _ _ a.2 (by omega) fun k hk hl=>keep k hl (h.d k hk).2) fun k hk _=>.inl hk⟩),?_,fun k hk=>?_⟩
 ·rw [chVs_snoc,List.length_append];exact ho
 ·obtain ⟨a,b⟩:=hh k hk
  refine ⟨by omega,?_⟩
  rcases ha.b with e | ⟨g,e,hge⟩
  ·rw [e];exact b
  ·rw [e];intro c;injection c with c;omega
theorem OwnL.cells (h:OwnL T w B t v D ws xs):∃ a cap,v=.slice a xs.length cap∧(xs≠[]→∃ b o,a=some ⟨b,o,none⟩∧b < w.heap.size∧∀ (i:Nat) (c:Int × β),xs[i]?=some c→w.cell? ⟨b,o+i*2,none⟩=some (.int .i64 c.1)∧∃ u,w.cell? ⟨b,o+i*2+1,none⟩=some u∧T D w u c.2):=by
 obtain ⟨_,a,cap,e,_,hc⟩:=ownsRow_slR h.o
 refine ⟨a,cap,e,fun hne=>?_⟩
 obtain ⟨bb,oo,ea,_,hlt,hcell⟩:=hc (fun h=>hne (List.eq_nil_of_length_eq_zero h))
 refine ⟨bb,oo,ea,hlt,fun i c hi=>?_⟩
 obtain ⟨q,hq,h1,h2⟩:=h.e.at hi
 obtain ⟨g1,g2⟩:=chVs_at ws i q hq
 refine ⟨by rw [←h1];exact hcell _ _ g1,q.2,?_,h2⟩
 rw [Nat.add_assoc]
 exact hcell _ _ g2
end
theorem own_chs {w:World} {B:Nat} {t:TypeId} {v:Value} {D:Foot} {ws:List (Int × Value)} {C:List ChV} (h:OwnL (fun D w u (x:Lb8)=>SlB D w u x) w B t v D ws C):SlCh w v C:=by
 obtain ⟨a,cap,e,hc⟩:=h.cells
 refine ⟨a,cap,e,fun hne=>?_⟩
 obtain ⟨b,o,ea,hlt,hh⟩:=hc hne
 refine ⟨b,o,ea,hlt,fun i hi=>?_⟩
 obtain ⟨c0,u,c1,hu⟩:=hh i (C.getD i zch) (by rw [List.getD_eq_getElem?_getD,List.getElem?_eq_getElem hi];rfl)
 exact ⟨c0,u,c1,hu.sl⟩
theorem slR_slrf {D:Foot} {w:World} {v:Value} {L:List RefV} (h:SlR D w 34 v L.length (refCs L)) (hw:∀ r∈L,r.Wf):SlRf w v L:=by
 obtain ⟨_,a,cap,e,_,hc⟩:=h
 refine ⟨a,cap,e,fun hne=>?_⟩
 obtain ⟨b,o,ea,_,hlt,hcell⟩:=hc (fun h=>hne (List.eq_nil_of_length_eq_zero h))
 refine ⟨b,o,ea,hlt,fun i hi j u hu=>?_⟩
 have hj:j < 34:=by
  have:=(List.getElem?_eq_some_iff.1 hu).1
  rwa [refL_length (getD_wf hw i)] at this
 rw [Nat.add_assoc]
 exact hcell (i*34+j) u (by rw [refCs_get L hw i j hi hj];exact hu)
theorem own_nds {w:World} {B:Nat} {t:TypeId} {v:Value} {D:Foot} {ws:List (Int × Value)} {N:List NdV} (h:OwnL (fun D w u (L:List RefV)=>SlR D w 34 u L.length (refCs L)) w B t v D ws N) (hw:∀ n∈N,∀ r∈n.2,r.Wf):SlNd w v N:=by
 obtain ⟨a,cap,e,hc⟩:=h.cells
 refine ⟨a,cap,e,fun hne=>?_⟩
 obtain ⟨b,o,ea,hlt,hh⟩:=hc hne
 refine ⟨b,o,ea,hlt,fun i hi=>?_⟩
 obtain ⟨c0,u,c1,hu⟩:=hh i (N.getD i znd) (by rw [List.getD_eq_getElem?_getD,List.getElem?_eq_getElem hi];rfl)
 exact ⟨c0,u,c1,slR_slrf hu (hw _ (by rw [List.getD_eq_getElem?_getD,List.getElem?_eq_getElem hi];exact List.getElem_mem hi))⟩
theorem Sl.slB {w:World} {v:Value} {l:Lb8} (h:Sl w v l):SlB (fun k=>k < w.heap.size) w v l:=by
 obtain ⟨a,cap,e,hc,hr⟩:=h
 refine ⟨by simp [u8s_length],a,cap,e,hc,fun hne=>?_⟩
 obtain ⟨b,o,ea,hlt,hcell⟩:=hr (fun h=>hne (by rw [h];rfl))
 refine ⟨b,o,ea,hlt,hlt,fun j u hu=>?_⟩
 have hj:j < l.length:=by have:=(List.getElem?_eq_some_iff.1 hu).1;rwa [u8s_length] at this
 rw [u8s_get l j hj] at hu
 injection hu with hu
 rw [←hu]
 exact hcell j hj
end Sha
end Go.Proofs.YtplmfmpbkjnbaaaGreatDoor
namespace Go.Proofs.YtplmfmpbkjnbaaaGreatDoor
namespace Sha
open Go.RowKit Mem
set_option maxRecDepth 100000
theorem made_refs (n:Nat):(madeCells (Value.agg (refC zref)).cells (n*34)).toList=refCs (List.replicate n zref):=by
 have hw:∀ r∈List.replicate n zref,r.Wf:=fun r hr=>by rw [List.eq_of_mem_replicate hr];exact zref_wf
 have hz:(Value.agg (refC zref)).cells=refC zref:=rfl
 have hs:(refC zref).size=34:=refC_size zref_wf
 rw [hz]
 apply List.ext_getElem?
 intro i
 by_cases hi:i < n*34
 ·have h1:i / 34 < n:=by omega
  have e:i=i / 34*34+i % 34:=by omega
  have h2:=refCs_get (List.replicate n zref) hw (i / 34) (i % 34) (by simpa using h1) (by omega)
  rw [←e] at h2
  rw [h2,List.getD_eq_getElem?_getD,List.getElem?_replicate,if_pos h1,Option.getD_some]
  have hr:refL zref=(refC zref).toList:=rfl
  rw [hr,Array.getElem?_toList,Array.getElem?_toList]
  unfold madeCells
  rw [Array.getElem?_map,Array.getElem?_range,if_pos hi,Option.map_some,hs]
  have hlt:i % 34 < (refC zref).size:=by omega
  rw [Array.getElem?_eq_getElem hlt,getElem!_pos (refC zref) (i % 34) hlt]
 ·rw [List.getElem?_eq_none (by rw [Array.length_toList,size_madeCells];omega),List.getElem?_eq_none (by rw [refCs_length _ hw,List.length_replicate];omega)]
theorem Each2.set {α β:Type} {R:α→β→Prop}:∀ {l:List α} {m:List β} (i:Nat) {x:α} {y:β},Each2 R l m→R x y→Each2 R (l.set i x) (m.set i y)
 | [],[],_,_,_,_,_=>trivial
 | _::_,_::_,0,_,_,h,hr=>⟨hr,h.2⟩
 | _::_,_::_,i+1,_,_,h,hr=>⟨h.1,Each2.set i h.2 hr⟩
theorem build_K014 (w:World):(Instr.build 22 #[]).run Tryz.prog w=.ok (.agg (u8s (List.replicate 32 0)).toArray) w:=by kernel_rfl
theorem neqRR14 {a b:RefV} (ha:a.Wf) (hb:b.Wf) (x y:Operand) (w:World):(do eqGuard .neq 25 x y (.agg (refC a)) (.agg (refC b));binOp .neq 25 (.agg (refC a)) (.agg (refC b)):Sem Value).run Tryz.prog w=.ok (.bool (!sameRef a b)) w:=
 (eqlRf _ (by kernel_rfl) (by kernel_rfl) (by kernel_rfl) (by kernel_rfl) ha hb x y w).2
end Sha
end Go.Proofs.YtplmfmpbkjnbaaaGreatDoor
namespace Go.Proofs.YtplmfmpbkjnbaaaGreatDoor
namespace Sha
open Go.ChangeShapes Go.WideShapes Go.ChangeAt Go.WideMaps Go.WideElems Go.RowKit Mem
set_option maxRecDepth 100000
theorem cRfs:Tryz.prog.cellsOf 85=1:=by kernel_rfl
theorem open_refs_in {H:Type} {enc:TypeId × Value→H} {W:World} {n:Nat} {v:Value} {y:DataW H × List MemPlace} (hf:DataW.trod enc Tryz.prog W 0 (fun _=>true) true n 85 [v]=some y) :
 ∃ L:List RefV,SlRf W v L∧∀ r∈L,r.Wf:=by
 rcases DataW.trod_slice Tryz.underlying85 hf with ⟨hcs,_⟩ | ⟨a,len0,cap0,elems,rest,n,_,hcs,_,hb,hl,hm,hlen,hel,_,_⟩
 ·simp at hcs
  subst hcs
  exact ⟨[],SlRf.nil _,by simp⟩
 ·simp at hcs
  subst hcs
  rw [show Tryz.prog.cellsOf 25=34 by kernel_rfl] at hel
  have each:∀ i,i < len0→∃ x:RefV,x.Wf∧∀ j,j < 34→W.cell? ((a.add (i*34)).add j)=(refL x)[j]?:=fun i hi=>by
   have h1:=hel i hi
   rw [List.getElem?_eq_getElem (by omega),Option.bind_eq_some_iff] at h1
   obtain ⟨cs',hc,hy⟩:=h1
   obtain ⟨x,hx,rfl⟩:=ref_of hy
   refine ⟨x,hx,fun j hj=>?_⟩
   have h2:=(World.cells?_some hc).2.2 j hj
   simpa using h2
  haveI:Inhabited RefV:=⟨zref⟩
  obtain ⟨f,hff⟩:=Deep.choose_lt each
  have hL:((List.range len0).map f).length=len0:=by simp
  have hg:∀ i,i < len0→((List.range len0).map f).getD i zref=f i:=fun i hi=>by simp [List.getD_eq_getElem?_getD,hi]
  refine ⟨(List.range len0).map f,⟨some a,cap0,by rw [hL],fun hne=>?_⟩,fun r hr=>?_⟩
  ·have h0:0 < len0:=by rw [←hL];exact List.length_pos_iff.2 hne
   have hc:=(hff 0 h0).2 0 (by decide)
   have e0:(refL (f 0))[0]?=some (.int .i64 (f 0).pl):=rfl
   rw [e0] at hc
   obtain ⟨bb,oo,q⟩:=a
   have hq:q=none:=by
    have:=World.cell?_spot hc
    simpa [Addr.add] using this
   subst hq
   refine ⟨bb,oo,rfl,?_,fun i hi j u hu=>?_⟩
   ·rw [Addr.add_mid,Addr.add_mid] at hc
    exact block_lt_of_cell hc
   ·rw [hL] at hi
    rw [hg i hi] at hu
    have hj:j < 34:=by
     have:=(List.getElem?_eq_some_iff.1 hu).1
     rwa [refL_length (hff i hi).1] at this
    have h3:=(hff i hi).2 j hj
    rw [Addr.add_mid,Addr.add_mid,hu] at h3
    exact h3
  ·obtain ⟨i,hi,rfl⟩:=List.mem_map.1 hr
   exact (hff i (List.mem_range.1 hi)).1
theorem nd_of {H:Type} {enc:TypeId × Value→H} {W:World} {n:Nat} {cs:List Value} {y:DataW H × List MemPlace} (hf:DataW.trod enc Tryz.prog W 0 (fun _=>true) true n 124 cs=some y):∃ (x:NdV) (u:Value),cs=[.int .i64 x.1,u]∧SlRf W u x.2∧∀ r∈x.2,r.Wf:=by
 obtain ⟨_,_,_,_,hl,_,_⟩:=DataW.trod_struct Tryz.underlying124 hf
 rw [show Tryz.prog.cellsOf 124=2 by kernel_rfl] at hl
 obtain ⟨y0,y1,m,_,_,h0,h1⟩:=trod_struct2 Tryz.underlying124 hf
 simp only at h0 h1
 rw [show Tryz.prog.cellsOf 3=1 by kernel_rfl] at h0
 rw [cRfs] at h1
 obtain ⟨a,b,rfl⟩:∃ a b,cs=[a,b]:=match cs,hl with | [a,b],_=>⟨a,b,rfl⟩
 obtain ⟨z0,e0,_,_⟩:=DataW.trod_int Tryz.underlying3 h0
 simp at e0
 obtain ⟨L,hL,hw⟩:=open_refs_in h1
 exact ⟨(z0,L),b,by rw [e0],hL,hw⟩
theorem ch_of {H:Type} {enc:TypeId × Value→H} {W:World} {n:Nat} {cs:List Value} {y:DataW H × List MemPlace} (hf:DataW.trod enc Tryz.prog W 0 (fun _=>true) true n 125 cs=some y):∃ (x:ChV) (u:Value),cs=[.int .i64 x.1,u]∧Sl W u x.2:=by
 obtain ⟨_,_,_,_,hl,_,_⟩:=DataW.trod_struct Tryz.underlying125 hf
 rw [show Tryz.prog.cellsOf 125=2 by kernel_rfl] at hl
 obtain ⟨y0,y1,m,_,_,h0,h1⟩:=trod_struct2 Tryz.underlying125 hf
 simp only at h0 h1
 rw [show Tryz.prog.cellsOf 3=1 by kernel_rfl] at h0
 rw [cS] at h1
 obtain ⟨a,b,rfl⟩:∃ a b,cs=[a,b]:=match cs,hl with | [a,b],_=>⟨a,b,rfl⟩
 obtain ⟨z0,e0,_,_⟩:=DataW.trod_int Tryz.underlying3 h0
 simp at e0
 obtain ⟨l,hl2,_⟩:=open_sl_in h1
 exact ⟨(z0,l),b,by rw [e0],hl2⟩
theorem open_nds {H:Type} {enc:TypeId × Value→H} {W:World} {base:Nat} {v:Value} {d:DataW H} {p:List MemPlace} (hval:Value.okWide Tryz.prog W .any base 28 v) (h:DataW.Trod enc Tryz.prog W 0 (fun _=>true) true 28 v d p) :
 ∃ N:List NdV,SlNd W v N∧∀ n∈N,∀ r∈n.2,r.Wf:=by
 obtain ⟨a0,len0,cap0,rfl⟩:=okWide_slice Tryz.underlying28 hval
 obtain ⟨fuel,hf⟩:=h
 rcases DataW.trod_slice Tryz.underlying28 hf with ⟨hcs,_⟩ | ⟨a,len,cap,elems,rest,n,_,hcs,_,hb,hl,hm,hlen,hel,_,_⟩
 ·simp [Value.cells] at hcs
  obtain ⟨rfl,rfl,rfl⟩:=hcs
  exact ⟨[],SlNd.nil _ _,by simp⟩
 ·simp [Value.cells] at hcs
  obtain ⟨rfl,rfl,rfl⟩:=hcs
  rw [show Tryz.prog.cellsOf 124=2 by kernel_rfl] at hel
  have each:∀ i,i < len0→∃ x:NdV,(∀ r∈x.2,r.Wf)∧∃ u,SlRf W u x.2∧W.cell? (a.add (i*2))=some (.int .i64 x.1)∧W.cell? ((a.add (i*2)).add 1)=some u:=fun i hi=>by
   have h1:=hel i hi
   rw [List.getElem?_eq_getElem (by omega),Option.bind_eq_some_iff] at h1
   obtain ⟨cs',hc,hy⟩:=h1
   obtain ⟨x,u,rfl,hs,hw⟩:=nd_of hy
   have h2:=(World.cells?_some hc).2.2
   refine ⟨x,hw,u,hs,?_,?_⟩
   ·have:=h2 0 (by decide);simpa [Addr.add] using this
   ·have:=h2 1 (by decide);simpa using this
  haveI:Inhabited NdV:=⟨znd⟩
  obtain ⟨f,hff⟩:=Deep.choose_lt each
  have hL:((List.range len0).map f).length=len0:=by simp
  have hg:∀ i,i < len0→((List.range len0).map f).getD i znd=f i:=fun i hi=>by simp [List.getD_eq_getElem?_getD,hi]
  refine ⟨(List.range len0).map f,⟨some a,cap0,by rw [hL],fun hne=>?_⟩,fun x hx=>?_⟩
  ·have h0:0 < len0:=by rw [←hL];exact List.length_pos_iff.2 hne
   obtain ⟨_,_,_,hc,_⟩:=hff 0 h0
   obtain ⟨bb,oo,q⟩:=a
   have hq:q=none:=by
    have:=World.cell?_spot hc
    simpa [Addr.add] using this
   subst hq
   refine ⟨bb,oo,rfl,?_,fun i hi=>?_⟩
   ·rw [Addr.add_mid] at hc
    exact block_lt_of_cell hc
   ·rw [hL] at hi
    rw [hg i hi]
    obtain ⟨_,u,hs,c0,c1⟩:=hff i hi
    rw [Addr.add_mid] at c0
    rw [Addr.add_mid,Addr.add_mid] at c1
    exact ⟨c0,u,c1,hs⟩
  ·obtain ⟨i,hi,rfl⟩:=List.mem_map.1 hx
   exact (hff i (List.mem_range.1 hi)).1
theorem open_chs {H:Type} {enc:TypeId × Value→H} {W:World} {base:Nat} {v:Value} {d:DataW H} {p:List MemPlace} (hval:Value.okWide Tryz.prog W .any base 29 v) (h:DataW.Trod enc Tryz.prog W 0 (fun _=>true) true 29 v d p) :
 ∃ C:List ChV,SlCh W v C:=by
 obtain ⟨a0,len0,cap0,rfl⟩:=okWide_slice Tryz.underlying29 hval
 obtain ⟨fuel,hf⟩:=h
 rcases DataW.trod_slice Tryz.underlying29 hf with ⟨hcs,_⟩ | ⟨a,len,cap,elems,rest,n,_,hcs,_,hb,hl,hm,hlen,hel,_,_⟩
 ·simp [Value.cells] at hcs
  obtain ⟨rfl,rfl,rfl⟩:=hcs
  exact ⟨[],SlCh.nil _ _⟩
 ·simp [Value.cells] at hcs
  obtain ⟨rfl,rfl,rfl⟩:=hcs
  rw [show Tryz.prog.cellsOf 125=2 by kernel_rfl] at hel
  have each:∀ i,i < len0→∃ x:ChV,∃ u,Sl W u x.2∧W.cell? (a.add (i*2))=some (.int .i64 x.1)∧W.cell? ((a.add (i*2)).add 1)=some u:=fun i hi=>by
   have h1:=hel i hi
   rw [List.getElem?_eq_getElem (by omega),Option.bind_eq_some_iff] at h1
   obtain ⟨cs',hc,hy⟩:=h1
   obtain ⟨x,u,rfl,hs⟩:=ch_of hy
   have h2:=(World.cells?_some hc).2.2
   refine ⟨x,u,hs,?_,?_⟩
   ·have:=h2 0 (by decide);simpa [Addr.add] using this
   ·have:=h2 1 (by decide);simpa using this
  haveI:Inhabited ChV:=⟨zch⟩
  obtain ⟨f,hff⟩:=Deep.choose_lt each
  have hL:((List.range len0).map f).length=len0:=by simp
  have hg:∀ i,i < len0→((List.range len0).map f).getD i zch=f i:=fun i hi=>by simp [List.getD_eq_getElem?_getD,hi]
  refine ⟨(List.range len0).map f,⟨some a,cap0,by rw [hL],fun hne=>?_⟩⟩
  have h0:0 < len0:=by rw [←hL];exact List.length_pos_iff.2 hne
  obtain ⟨_,_,hc,_⟩:=hff 0 h0
  obtain ⟨bb,oo,q⟩:=a
  have hq:q=none:=by
   have:=World.cell?_spot hc
   simpa [Addr.add] using this
  subst hq
  refine ⟨bb,oo,rfl,?_,fun i hi=>?_⟩
  ·rw [Addr.add_mid] at hc
   exact block_lt_of_cell hc
  ·rw [hL] at hi
   rw [hg i hi]
   obtain ⟨u,hs,c0,c1⟩:=hff i hi
   rw [Addr.add_mid] at c0
   rw [Addr.add_mid,Addr.add_mid] at c1
   exact ⟨c0,u,c1,hs⟩
def askC (b:Nat) (key:Lb8) (ep:BitVec 32) (r:RefV):Array Value:=(.int .u8 (b:Int)::(u8s key++(.int .u32 (V ep)::refL r))).toArray
theorem open_ask16 {H:Type} {enc:TypeId × Value→H} {W:World} {base:Nat} {v:Value} {d:DataW H} {p:List MemPlace} (hval:Value.okWide Tryz.prog W .any base 27 v) (h:DataW.Trod enc Tryz.prog W 0 (fun _=>true) true 27 v d p) :
 ∃ (b:Nat) (key:Lb8) (ep:BitVec 32) (r:RefV),v=.agg (askC b key ep r)∧b < 256∧key.length=32∧r.Wf:=by
 obtain ⟨ca,rfl,_⟩:=okWide_struct Tryz.underlying27 hval
 obtain ⟨fuel,hf⟩:=h
 have e1:(Value.agg ca).cells.toList=ca.toList:=rfl
 rw [e1] at hf
 obtain ⟨cs,hcs⟩:∃ cs,cs=ca.toList:=⟨_,rfl⟩
 rw [←hcs] at hf
 obtain ⟨xs,n,_,_,hl,hlen,hfs⟩:=DataW.trod_struct Tryz.underlying27 hf
 rw [show Tryz.prog.cellsOf 27=68 by kernel_rfl] at hl
 match xs,hlen with
 | [y0,y1,y2,y3],_=>
  have c32:Tryz.prog.cellsOf 22=32:=by kernel_rfl
  have h0:=hfs 0 _ rfl
  have h1:=hfs 1 _ rfl
  have h2:=hfs 2 _ rfl
  have h3:=hfs 3 _ rfl
  replace h0:DataW.trod enc Tryz.prog W 0 (fun _=>true) true n 5 ((cs.drop 0).take (Tryz.prog.cellsOf 5))=some y0:=h0
  replace h1:DataW.trod enc Tryz.prog W 0 (fun _=>true) true n 22 ((cs.drop 1).take (Tryz.prog.cellsOf 22))=some y1:=h1
  replace h2:DataW.trod enc Tryz.prog W 0 (fun _=>true) true n 23 ((cs.drop 33).take (Tryz.prog.cellsOf 23))=some y2:=h2
  replace h3:DataW.trod enc Tryz.prog W 0 (fun _=>true) true n 25 ((cs.drop 34).take (Tryz.prog.cellsOf 25))=some y3:=h3
  rw [show Tryz.prog.cellsOf 5=1 by kernel_rfl] at h0
  rw [c32] at h1
  rw [show Tryz.prog.cellsOf 23=1 by kernel_rfl] at h2
  rw [show Tryz.prog.cellsOf 25=34 by kernel_rfl] at h3
  obtain ⟨z0,e0,_,w0⟩:=DataW.trod_int Tryz.underlying5 h0
  obtain ⟨key,ek,lk⟩:=open_bytes_in Tryz.underlying22 c32 h1
  obtain ⟨z2,e2,_,w2⟩:=DataW.trod_int Tryz.underlying23 h2
  obtain ⟨ep,rfl⟩:=word_of w2
  obtain ⟨r,hr,er⟩:=ref_of h3
  simp [Lit.wf,IntKind.min,IntKind.max,IntKind.signed,IntKind.bits] at w0
  refine ⟨z0.toNat,key,ep,r,congrArg Value.agg ?_,by omega,lk,hr⟩
  have d0:cs=cs.take 1++cs.drop 1:=(List.take_append_drop 1 _).symm
  have d1:cs.drop 1=(cs.drop 1).take 32++(cs.drop 1).drop 32:=(List.take_append_drop 32 _).symm
  have d2:cs.drop 33=(cs.drop 33).take 1++(cs.drop 33).drop 1:=(List.take_append_drop 1 _).symm
  have d3:(cs.drop 34).take 34=cs.drop 34:=List.take_of_length_le (by rw [List.length_drop];omega)
  rw [List.drop_drop] at d1 d2
  rw [List.drop_zero] at e0
  rw [d3] at er
  have key1:cs=.int .u8 ((z0.toNat:Nat):Int)::(u8s key++(.int .u32 (V ep)::refL r)):=by
   rw [d0,d1,d2,e0,ek,e2,er,show ((z0.toNat:Nat):Int)=z0 by omega];rfl
  unfold askC
  rw [←key1,hcs]
end Sha
end Go.Proofs.YtplmfmpbkjnbaaaGreatDoor
