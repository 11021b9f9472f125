/- My own texts, merged. -/
import Derived.Test.YtlhnegbjoncieaaGreatDoorBL33
import Derived.Test.YtlhnegbjoncieaaGreatDoorBL09
import Derived.Test.YtlhnegbjoncieaaGreatDoorBL16
import Derived.Test.YtlhnegbjoncieaaGreatDoorBL32
import Derived.Test.YtlhnegbjoncieaaGreatDoorBL20
import Derived.Test.YtlhnegbjoncieaaGreatDoorBL03
import Derived.Test.YtlhnegbjoncieaaGreatDoorBL19
import Derived.Test.YtlhnegbjoncieaaGreatDoorBL24
import Derived.Test.YtlhnegbjoncieaaGreatDoorBL17
namespace Go.Proofs.YtlhnegbjoncieaaGreatDoor
namespace Sha
open Go.RowKit Mem
abbrev ChV:=Int × Lb8
abbrev NdV:=Int × List RefV
def zch:ChV:=(0,[])
def znd:NdV:=(0,[])
def onW (p:Nat) (x:Int) (i:Nat):Bool:=(WZ p x).contains (i:Int)
def isN (p:Nat) (L:List Int) (i:Nat):Bool:=decide (p≤i) && L.any fun x=>onW p x i
def needT (p:Nat) (L:List Int):List Nat:=(List.range (itn p)).filter (isN p L)
def findT (N:List NdV) (z:Int):Option (List RefV):=(N.find? fun n=>n.1 == z).map (·.2)
def findD (N:List NdV) (z:Int):List RefV:=(findT N z).getD []
def pgsC (C:List ChV):List Int:=C.map (·.1)
abbrev riseT (p:Nat) (C:List ChV):Prop:=∀ i,i < C.length→(0≤(C.getD i zch).1∧(C.getD i zch).1 < (p:Int))∧(C.getD i zch).2.length=256∧(0 < i→(C.getD (i - 1) zch).1 < (C.getD i zch).1)
def nodeOk (p:Nat) (N:List NdV) (i:Nat):Bool:=decide ((findD N (i:Int)).length=many p i) && (findD N (i:Int)).all plOk
def mayT (p:Nat) (N:List NdV) (C:List ChV):Bool:=decide (riseT p C) && (needT p (pgsC C)).all (nodeOk p N)
section
variable (key:Lb8) (ep:BitVec 32) (p:Nat) (root:RefV) (N:List NdV) (C:List ChV)
def chgP (i:Nat):Option (Lb8):=(C.find? fun c=>c.1 == (i:Int)).map (·.2)
def oldC (i:Nat):RefV:=if i+1 < itn p then (findD N ((parN p i).1:Int)).getD (parN p i).2 zref else root
def oplC (i:Nat):Int:=(oldC p root N i).pl
def blkC (i:Nat):Nat:=2+2*i+(1 - oplC p root N i).toNat
def newC (F:List (Option RefV)) (q:Nat):List RefV:=(List.range (many p q)).map fun t=>(F.getD (fst p q+t) none).getD ((findD N (q:Int)).getD t zref)
def pageC (F:List (Option RefV)) (i:Nat):Option (Lb8):=if i < p then chgP C i else if isN p (pgsC C) i=true then some (layN (newC p N F i)).1 else none
def hidC (i:Nat) (pg:Lb8):Lb8 × RefV × Int:=hideR key ep (1 - oplC p root N i) (2+2*(i:Int)+(1 - oplC p root N i)) pg
def stpC (F:List (Option RefV)) (i:Nat):Option (Lb8 × RefV):=(pageC p N C F i).map fun pg=>((hidC key ep p root N i pg).1,(hidC key ep p root N i pg).2.1)
def frL:Nat→List (Option RefV)
 | 0=>[]
 | i+1=>frL i++[(stpC key ep p root N C (frL i) i).map (·.2)]
def selC (i:Nat):Option (Lb8 × RefV):=stpC key ep p root N C (frL key ep p root N C i) i
def frC (i:Nat):Option RefV:=(selC key ep p root N C i).map (·.2)
def putsC (n:Nat):List (Nat × Lb8):=(List.range n).filterMap fun i=>(selC key ep p root N C i).map fun s=>(blkC p root N i,s.1)
def refsC (n q:Nat):List RefV:=newC p N (frL key ep p root N C n) q
def ndsC (n:Nat):List NdV:=((List.range n).filter (isN p (pgsC C))).map fun (i:Nat)=>((i:Int),refsC key ep p root N C i i)
def rootC (n:Nat):RefV:=(if itn p≤n then frC key ep p root N C (itn p - 1) else none).getD root
def planT:List (Nat × Lb8) × List NdV × RefV × Int:=
 if mayT p N C=true∧plOk root=true then (putsC key ep p root N C (itn p),ndsC key ep p root N C (itn p),rootC key ep p root N C (itn p),0) else ([],[],zref,1)
end
theorem mem_need (p:Nat) (L:List Int) (i:Nat):i∈needT p L ↔ i < itn p∧isN p L i=true:=by
 unfold needT;rw [List.mem_filter,List.mem_range]
theorem isN_iff (p:Nat) (L:List Int) (i:Nat):isN p L i=true ↔ p≤i∧∃ x∈L,onW p x i=true:=by
 unfold isN;simp
theorem onW_iff (p:Nat) (x:Int) (i:Nat):onW p x i=true ↔ (0≤x∧x < (p:Int))∧∃ k,k≤topn p∧itp p x.toNat k=i:=by
 unfold onW WZ
 rw [List.contains_iff_mem]
 constructor
 ·intro h
  split at h
  ·rename_i hx
   refine ⟨hx,?_⟩
   unfold pathZ at h
   obtain ⟨k,hk,he⟩:=List.mem_map.1 h
   exact ⟨k,by have:=List.mem_range.1 hk;omega,by omega⟩
  ·cases h
 ·rintro ⟨hx,k,hk,he⟩
  rw [if_pos hx]
  unfold pathZ
  exact List.mem_map.2 ⟨k,List.mem_range.2 (by omega),by rw [he]⟩
theorem onW_par (p:Nat) (x:Int) (i:Nat) (h0:1≤p) (h1:p≤216) (hi:i+1 < itn p) (h:onW p x i=true):onW p x (parN p i).1=true:=by
 obtain ⟨hx,k,hk,he⟩:=(onW_iff p x i).1 h
 have hkt:k < topn p:=by
  rcases Nat.lt_or_ge k (topn p) with g | g
  ·exact g
  ·have e:k=topn p:=by omega
   have r:=itp_root p x.toNat h0 h1 (by omega)
   rw [e] at he
   omega
 refine (onW_iff p x _).2 ⟨hx,k+1,by omega,?_⟩
 rw [←he]
 rfl
theorem isN_par {p:Nat} {L:List Int} {i:Nat} (h0:1≤p) (h1:p≤216) (hi:i+1 < itn p) (h:isN p L i=true):isN p L (parN p i).1=true:=by
 obtain ⟨_,x,hx,hw⟩:=(isN_iff p L i).1 h
 exact (isN_iff p L _).2 ⟨(par_lev p i h0 h1 hi).2.2.2.1,x,hx,onW_par p x i h0 h1 hi hw⟩
theorem isN_page {p:Nat} {L:List Int} {x:Nat} (h0:1≤p) (h1:p≤216) (hx:x < p) (h:(x:Int)∈L):isN p L (parN p x).1=true:=by
 have hb:=itn_big p h0 h1
 have hw:onW p (x:Int) x=true:=(onW_iff p _ x).2 ⟨by omega,0,by omega,by simp [itp]⟩
 have hi:x+1 < itn p:=by omega
 exact (isN_iff p L _).2 ⟨(par_lev p x h0 h1 hi).2.2.2.1,_,h,onW_par p _ x h0 h1 hi hw⟩
section
variable {key:Lb8} {ep:BitVec 32} {p:Nat} {root:RefV} {N:List NdV} {C:List ChV}
theorem frL_length (n:Nat):(frL key ep p root N C n).length=n:=by
 induction n with
 | zero=>rfl
 | succ n ih=>rw [frL,List.length_append,ih];rfl
theorem frL_get (n i:Nat):(frL key ep p root N C n).getD i none=if i < n then frC key ep p root N C i else none:=by
 induction n with
 | zero=>rw [if_neg (by omega)];rfl
 | succ n ih=>
  rw [frL,List.getD_eq_getElem?_getD]
  by_cases h:i < n
  ·rw [List.getElem?_append_left (by rw [frL_length];exact h),←List.getD_eq_getElem?_getD,ih,if_pos h,if_pos (by omega)]
  ·by_cases e:i=n
   ·subst e
    rw [List.getElem?_append_right (by rw [frL_length];exact Nat.le_refl _),frL_length,Nat.sub_self,if_pos (by omega)]
    rfl
   ·rw [List.getElem?_eq_none (by rw [List.length_append,frL_length];simp;omega),if_neg (by omega)]
    rfl
theorem newC_length (F:List (Option RefV)) (q:Nat):(newC p N F q).length=many p q:=by simp [newC]
theorem refsC_length (n q:Nat):(refsC key ep p root N C n q).length=many p q:=newC_length _ _
theorem refsC_get (n q t:Nat) (ht:t < many p q):(refsC key ep p root N C n q).getD t zref=((if fst p q+t < n then frC key ep p root N C (fst p q+t) else none).getD ((findD N (q:Int)).getD t zref)):=by
 unfold refsC newC
 rw [List.getD_eq_getElem?_getD,List.getElem?_map,List.getElem?_range ht,Option.map_some,Option.getD_some,frL_get]
theorem refs_ext {L M:List RefV} {n:Nat} (h1:L.length=n) (h2:M.length=n) (h:∀ t,t < n→L.getD t zref=M.getD t zref):L=M:=by
 apply List.ext_getElem
 ·rw [h1,h2]
 ·intro i a b
  have g:=h i (by omega)
  rw [List.getD_eq_getElem?_getD,List.getD_eq_getElem?_getD,List.getElem?_eq_getElem a,List.getElem?_eq_getElem b] at g
  exact g
theorem getD_set_self (L:List RefV) (i:Nat) (r:RefV) (h:i < L.length):(L.set i r).getD i zref=r:=by
 rw [List.getD_eq_getElem?_getD,List.getElem?_set_self h];rfl
theorem getD_set_ne (L:List RefV) (i j:Nat) (r:RefV) (h:i≠j):(L.set i r).getD j zref=L.getD j zref:=by
 rw [List.getD_eq_getElem?_getD,List.getElem?_set_ne h,←List.getD_eq_getElem?_getD]
theorem refsC_zero (q:Nat) (h:(findD N (q:Int)).length=many p q):refsC key ep p root N C 0 q=findD N (q:Int):=
 refs_ext (refsC_length 0 q) h fun t ht=>by rw [refsC_get 0 q t ht,if_neg (by omega)];rfl
theorem putsC_succ (n:Nat):putsC key ep p root N C (n+1)=putsC key ep p root N C n++((selC key ep p root N C n).map fun s=>(blkC p root N n,s.1)).toList:=by
 unfold putsC
 rw [List.range_succ,List.filterMap_append]
 congr 1
theorem putsC_none {n:Nat} (h:selC key ep p root N C n=none):putsC key ep p root N C (n+1)=putsC key ep p root N C n:=by rw [putsC_succ,h];simp
theorem putsC_some {n:Nat} {s:Lb8 × RefV} (h:selC key ep p root N C n=some s):putsC key ep p root N C (n+1)=putsC key ep p root N C n++[(blkC p root N n,s.1)]:=by rw [putsC_succ,h];rfl
theorem frC_none {n:Nat} (h:selC key ep p root N C n=none):frC key ep p root N C n=none:=by unfold frC;rw [h];rfl
theorem frC_some {n:Nat} {s:Lb8 × RefV} (h:selC key ep p root N C n=some s):frC key ep p root N C n=some s.2:=by unfold frC;rw [h];rfl
theorem refsC_none {n q:Nat} (h:selC key ep p root N C n=none):refsC key ep p root N C (n+1) q=refsC key ep p root N C n q:=
 refs_ext (refsC_length _ _) (refsC_length _ _) fun t ht=>by
  rw [refsC_get _ _ _ ht,refsC_get _ _ _ ht]
  by_cases e:fst p q+t=n
  ·rw [if_pos (by omega),if_neg (by omega),e,frC_none h]
  ·by_cases g:fst p q+t < n
   ·rw [if_pos (by omega),if_pos g]
   ·rw [if_neg (by omega),if_neg g]
theorem refsC_own (h0:1≤p) (h1:p≤216) {n:Nat} {s:Lb8 × RefV} (h:selC key ep p root N C n=some s) (hn:n+1 < itn p):refsC key ep p root N C (n+1) (parN p n).1=(refsC key ep p root N C n (parN p n).1).set (parN p n).2 s.2:=by
 have hl:=par_lev p n h0 h1 hn
 have hk:=(kid_iff p (parN p n).1 n (parN p n).2 h0 h1 hl.2.2.2.1 hl.2.2.1).2 ⟨hn,rfl⟩
 refine refs_ext (refsC_length _ _) (by rw [List.length_set,refsC_length]) fun t ht=>?_
 rw [refsC_get _ _ _ ht]
 by_cases e:t=(parN p n).2
 ·subst e
  rw [getD_set_self _ _ _ (by rw [refsC_length];exact hk.1),hk.2,if_pos (by omega),frC_some h]
  rfl
 ·rw [getD_set_ne _ _ _ _ (fun h=>e h.symm),refsC_get _ _ _ ht]
  by_cases g:fst p (parN p n).1+t < n
  ·rw [if_pos (by omega),if_pos g]
  ·rw [if_neg (by omega),if_neg g]
theorem refsC_other (h0:1≤p) (h1:p≤216) {n q:Nat} (hq:p≤q) (hqt:q < itn p) (hne:n+1 < itn p→q≠(parN p n).1):refsC key ep p root N C (n+1) q=refsC key ep p root N C n q:=
 refs_ext (refsC_length _ _) (refsC_length _ _) fun t ht=>by
  rw [refsC_get _ _ _ ht,refsC_get _ _ _ ht]
  by_cases e:fst p q+t=n
  ·have:=(kid_iff p q n t h0 h1 hq hqt).1 ⟨ht,e⟩
   exact absurd (by rw [this.2]) (hne this.1)
  ·by_cases g:fst p q+t < n
   ·rw [if_pos (by omega),if_pos g]
   ·rw [if_neg (by omega),if_neg g]
theorem refsC_old (h0:1≤p) (h1:p≤216) {n:Nat} (hn:n+1 < itn p):(refsC key ep p root N C n (parN p n).1).getD (parN p n).2 zref=oldC p root N n:=by
 have hl:=par_lev p n h0 h1 hn
 have hk:=(kid_iff p (parN p n).1 n (parN p n).2 h0 h1 hl.2.2.2.1 hl.2.2.1).2 ⟨hn,rfl⟩
 rw [refsC_get _ _ _ hk.1,hk.2,if_neg (by omega)]
 unfold oldC
 rw [if_pos hn]
 rfl
theorem rootC_lt {n:Nat} (h:n < itn p):rootC key ep p root N C n=root:=by unfold rootC;rw [if_neg (by omega)];rfl
theorem rootC_last (h0:1≤p) (h1:p≤216) {s:Lb8 × RefV} (h:selC key ep p root N C (itn p - 1)=some s):rootC key ep p root N C (itn p)=s.2:=by
 have:=itn_big p h0 h1
 unfold rootC;rw [if_pos (Nat.le_refl _),frC_some h];rfl
theorem oldC_last {n:Nat} (h:¬ n+1 < itn p):oldC p root N n=root:=by unfold oldC;rw [if_neg h]
end
end Sha
end Go.Proofs.YtlhnegbjoncieaaGreatDoor
namespace Go.Proofs.YtlhnegbjoncieaaGreatDoor
namespace Sha
open Go.RowKit Mem
theorem may_iff (p:Nat) (N:List NdV) (C:List ChV):mayT p N C=true ↔ riseT p C∧∀ i,i < itn p→isN p (pgsC C) i=true→(findD N (i:Int)).length=many p i∧∀ r∈findD N (i:Int),plOk r=true:=by
 unfold mayT
 rw [Bool.and_eq_true,decide_eq_true_eq,List.all_eq_true]
 constructor
 ·rintro ⟨a,b⟩
  refine ⟨a,fun i hi hn=>?_⟩
  have h:=b i ((mem_need p _ i).2 ⟨hi,hn⟩)
  unfold nodeOk at h
  rw [Bool.and_eq_true,decide_eq_true_eq,List.all_eq_true] at h
  exact h
 ·rintro ⟨a,b⟩
  refine ⟨a,fun i hi=>?_⟩
  obtain ⟨h1,h2⟩:=(mem_need p _ i).1 hi
  unfold nodeOk
  rw [Bool.and_eq_true,decide_eq_true_eq,List.all_eq_true]
  exact b i h1 h2
structure GoodC (p:Nat) (root:RefV) (N:List NdV) (C:List ChV):Prop where
 h0:1≤p
 h1:p≤216
 may:mayT p N C=true
 rt:plOk root=true
 wf:∀ n∈N,∀ r∈n.2,r.Wf
 rw:root.Wf
def tchC (p:Nat) (C:List ChV) (i:Nat):Bool:=if i < p then (pgsC C).contains (i:Int) else isN p (pgsC C) i
theorem findD_wf {N:List NdV} (h:∀ n∈N,∀ r∈n.2,r.Wf) (z:Int):∀ r∈findD N z,r.Wf:=by
 intro r hr
 unfold findD findT at hr
 cases e:N.find? fun n=>n.1 == z with
 | none=>rw [e] at hr;simp at hr
 | some n=>rw [e] at hr;exact h n (List.mem_of_find?_eq_some e) r (by simpa using hr)
theorem getD_pl {L:List RefV} (h:∀ r∈L,plOk r=true) (i:Nat):plOk (L.getD i zref)=true:=by
 rw [List.getD_eq_getElem?_getD]
 by_cases hi:i < L.length
 ·rw [List.getElem?_eq_getElem hi];exact h _ (List.getElem_mem hi)
 ·rw [List.getElem?_eq_none (by omega)];rfl
theorem rise_lt {p:Nat} {C:List ChV} (h:riseT p C) (i:Nat):∀ j,i < j→j < C.length→(C.getD i zch).1 < (C.getD j zch).1:=by
 intro j
 induction j with
 | zero=>intro a;omega
 | succ j ih=>
  intro a b
  have g:=(h (j+1) b).2.2 (by omega)
  rw [Nat.add_sub_cancel] at g
  by_cases e:i=j
  ·subst e;exact g
  ·have:=ih (by omega) (by omega);omega
theorem mem_pgsC {C:List ChV} {z:Int}:z∈pgsC C ↔ ∃ j,j < C.length∧(C.getD j zch).1=z:=by
 unfold pgsC
 rw [List.mem_map]
 constructor
 ·rintro ⟨c,hc,e⟩
  obtain ⟨j,hj,e2⟩:=List.mem_iff_getElem.1 hc
  exact ⟨j,hj,by rw [List.getD_eq_getElem?_getD,List.getElem?_eq_getElem hj,Option.getD_some,e2];exact e⟩
 ·rintro ⟨j,hj,e⟩
  rw [List.getD_eq_getElem?_getD,List.getElem?_eq_getElem hj,Option.getD_some] at e
  exact ⟨C[j],List.getElem_mem hj,e⟩
theorem chgP_get {p:Nat} {C:List ChV} (h:riseT p C) {j x:Nat} (hj:j < C.length) (hx:(C.getD j zch).1=(x:Int)):chgP C x=some (C.getD j zch).2:=by
 have e:C.find? (fun c=>c.1 == (x:Int))=some C[j]:=by
  rw [List.find?_eq_some_iff_getElem]
  have ej:C.getD j zch=C[j]:=by rw [List.getD_eq_getElem?_getD,List.getElem?_eq_getElem hj,Option.getD_some]
  rw [ej] at hx
  refine ⟨by simp [hx],j,hj,rfl,fun i hi=>?_⟩
  have g:=rise_lt h i j hi hj
  have ei:C.getD i zch=C[i]:=by rw [List.getD_eq_getElem?_getD,List.getElem?_eq_getElem (by omega),Option.getD_some]
  rw [ei,ej,hx] at g
  have:¬ C[i].1=(x:Int):=by omega
  simp [this]
 unfold chgP
 rw [e,List.getD_eq_getElem?_getD,List.getElem?_eq_getElem hj]
 rfl
theorem chgP_none {C:List ChV} {x:Nat} (h:(x:Int) ∉ pgsC C):chgP C x=none:=by
 unfold chgP
 rw [List.find?_eq_none.2]
 ·rfl
 ·intro c hc e
  exact h (List.mem_map.2 ⟨c,hc,by simpa using e⟩)
section
variable {key:Lb8} {ep:BitVec 32} {p:Nat} {root:RefV} {N:List NdV} {C:List ChV}
theorem sel_none {i:Nat} (h:tchC p C i=false):selC key ep p root N C i=none:=by
 unfold tchC at h
 unfold selC stpC pageC
 by_cases hp:i < p
 ·rw [if_pos hp] at h ⊢
  rw [chgP_none (by simpa using h)]
  rfl
 ·rw [if_neg hp] at h ⊢
  rw [h]
  rfl
theorem tch_par (G:GoodC p root N C) {i:Nat} (h:tchC p C i=true) (hi:i+1 < itn p):isN p (pgsC C) (parN p i).1=true:=by
 unfold tchC at h
 by_cases hp:i < p
 ·rw [if_pos hp] at h
  exact isN_page G.h0 G.h1 hp (by simpa using h)
 ·rw [if_neg hp] at h
  exact isN_par G.h0 G.h1 hi h
theorem old_ok (G:GoodC p root N C) {i:Nat} (h:i+1 < itn p→isN p (pgsC C) (parN p i).1=true):plOk (oldC p root N i)=true:=by
 unfold oldC
 by_cases hi:i+1 < itn p
 ·rw [if_pos hi]
  exact getD_pl (((may_iff p N C).1 G.may).2 _ (par_lev p i G.h0 G.h1 hi).2.2.1 (h hi)).2 _
 ·rw [if_neg hi];exact G.rt
theorem opl_ok (G:GoodC p root N C) {i:Nat} (h:tchC p C i=true):0≤oplC p root N i∧oplC p root N i≤1:=by
 have:=old_ok G (tch_par G h)
 unfold oplC
 unfold plOk at this
 exact of_decide_eq_true this
theorem fr_wf {i:Nat} {r:RefV} (h:frC key ep p root N C i=some r):r.Wf:=by
 unfold frC selC stpC at h
 cases e:pageC p N C (frL key ep p root N C i) i with
 | none=>rw [e] at h;cases h
 | some pg=>rw [e] at h;simp at h;rw [←h];exact hideR_wf _ _ _ _ _
theorem fr_pl {i:Nat} {r:RefV} (h:frC key ep p root N C i=some r) (ho:plOk (oldC p root N i)=true):plOk r=true:=by
 unfold frC selC stpC at h
 cases e:pageC p N C (frL key ep p root N C i) i with
 | none=>rw [e] at h;cases h
 | some pg=>
  rw [e] at h
  simp at h
  rw [←h]
  unfold hidC hideR
  split
  ·rfl
  ·unfold plOk at *
   have:=of_decide_eq_true ho
   show decide (0≤1 - oplC p root N i∧1 - oplC p root N i≤1)=true
   unfold oplC
   exact decide_eq_true (by omega)
theorem refsC_wf (hw:∀ n∈N,∀ r∈n.2,r.Wf) (n q:Nat):∀ r∈refsC key ep p root N C n q,r.Wf:=by
 intro r hr
 unfold refsC newC at hr
 obtain ⟨t,_,rfl⟩:=List.mem_map.1 hr
 rw [frL_get]
 split
 ·cases e:frC key ep p root N C (fst p q+t) with
  | none=>exact getD_wf (findD_wf hw _) _
  | some r=>exact fr_wf e
 ·exact getD_wf (findD_wf hw _) _
theorem refsC_pl (G:GoodC p root N C) (n q:Nat) (hp:p≤q) (hq:q < itn p) (hn:isN p (pgsC C) q=true):∀ r∈refsC key ep p root N C n q,plOk r=true:=by
 intro r hr
 have hd:=getD_pl (((may_iff p N C).1 G.may).2 q hq hn).2
 unfold refsC newC at hr
 obtain ⟨t,ht,rfl⟩:=List.mem_map.1 hr
 have ht:=List.mem_range.1 ht
 rw [frL_get]
 split
 ·cases e:frC key ep p root N C (fst p q+t) with
  | none=>exact hd t
  | some r=>
   have hk:=(kid_iff p q _ t G.h0 G.h1 hp hq).1 ⟨ht,rfl⟩
   exact fr_pl e (old_ok G fun _=>by rw [hk.2];exact hn)
 ·exact hd t
theorem layC_ok (G:GoodC p root N C) (n q:Nat) (hp:p≤q) (hq:q < itn p) (hn:isN p (pgsC C) q=true):(layN (refsC key ep p root N C n q)).2=0:=by
 have h:=node_kids p q G.h0 G.h1 hp hq
 have h6:=many_le p q
 have hl:(refsC key ep p root N C n q).length=many p q:=refsC_length n q
 rw [layN_good (by omega) (by omega) fun t _=>getD_pl (refsC_pl G n q hp hq hn) t]
theorem layC_len (G:GoodC p root N C) (n q:Nat) (hp:p≤q) (hq:q < itn p) (hn:isN p (pgsC C) q=true):(layN (refsC key ep p root N C n q)).1.length=256:=
 layN_length (refsC_wf G.wf n q) (Prod.ext rfl (layC_ok G n q hp hq hn))
theorem page_ok (G:GoodC p root N C) {i:Nat} (hi:i < itn p) (h:tchC p C i=true):∃ pg,pageC p N C (frL key ep p root N C i) i=some pg∧pg.length=256:=by
 unfold tchC at h
 unfold pageC
 by_cases hp:i < p
 ·rw [if_pos hp] at h ⊢
  obtain ⟨j,hj,e⟩:=mem_pgsC.1 (by simpa using h)
  have hr:=((may_iff p N C).1 G.may).1
  exact ⟨_,chgP_get hr hj e,(hr j hj).2.1⟩
 ·rw [if_neg hp] at h ⊢
  rw [if_pos h]
  exact ⟨_,rfl,layC_len G i i (by omega) hi h⟩
theorem blk_int (G:GoodC p root N C) {i:Nat} (h:tchC p C i=true):(2+2*(i:Int)+(1 - oplC p root N i))=((blkC p root N i:Nat):Int):=by
 have:=opl_ok G h
 unfold blkC
 omega
theorem sel_ok (G:GoodC p root N C) {i:Nat} {pg:Lb8} (h:tchC p C i=true) (hp:pageC p N C (frL key ep p root N C i) i=some pg) (hl:pg.length=256) :
 hidC key ep p root N i pg=(sealL key ep (blkC p root N i:Nat) pg,⟨1 - oplC p root N i,ep,digestOf (sealL key ep (blkC p root N i:Nat) pg)⟩,0)∧selC key ep p root N C i=some (sealL key ep (blkC p root N i:Nat) pg,⟨1 - oplC p root N i,ep,digestOf (sealL key ep (blkC p root N i:Nat) pg)⟩):=by
 have ho:=opl_ok G h
 have hb:=blk_int G h
 have e:hidC key ep p root N i pg=(sealL key ep (blkC p root N i:Nat) pg,⟨1 - oplC p root N i,ep,digestOf (sealL key ep (blkC p root N i:Nat) pg)⟩,0):=by
  unfold hidC
  rw [hb]
  exact hideR_good key ep (1 - oplC p root N i) (blkC p root N i:Nat) pg hl (by omega) (by omega) (by omega)
 refine ⟨e,?_⟩
 unfold selC stpC
 rw [hp,Option.map_some,e]
theorem skip_any {a:Nat}:∀ b,a≤b→(∀ i,a≤i→i < b→tchC p C i=false)→putsC key ep p root N C b=putsC key ep p root N C a∧∀ q,refsC key ep p root N C b q=refsC key ep p root N C a q:=by
 intro b
 induction b with
 | zero=>
  intro h _
  have:a=0:=by omega
  subst this
  exact ⟨rfl,fun _=>rfl⟩
 | succ b ih=>
  intro h hn
  by_cases e:a=b+1
  ·subst e;exact ⟨rfl,fun _=>rfl⟩
  ·obtain ⟨h1,h2⟩:=ih (by omega) fun i x y=>hn i x (by omega)
   have hs:=sel_none (key:=key) (ep:=ep) (root:=root) (N:=N) (hn b (by omega) (by omega))
   exact ⟨by rw [putsC_none hs,h1],fun q=>by rw [refsC_none hs,h2]⟩
end
theorem filter_at (f:Nat→Bool):∀ n j,j < ((List.range n).filter f).length→((List.range n).filter f).getD j 0 < n∧f (((List.range n).filter f).getD j 0)=true∧(List.range (((List.range n).filter f).getD j 0)).filter f=((List.range n).filter f).take j:=by
 intro n
 induction n with
 | zero=>intro j h;simp at h
 | succ n ih=>
  intro j h
  rw [List.range_succ,List.filter_append] at h ⊢
  by_cases hj:j < ((List.range n).filter f).length
  ·obtain ⟨a,b,c⟩:=ih j hj
   rw [List.getD_eq_getElem?_getD,List.getElem?_append_left hj,←List.getD_eq_getElem?_getD]
   exact ⟨by omega,b,by rw [c,List.take_append_of_le_length (by omega)]⟩
  ·by_cases hf:f n=true
   ·have e1:[n].filter f=[n]:=by simp [hf]
    rw [e1] at h ⊢
    have e:j=((List.range n).filter f).length:=by simp at h;omega
    subst e
    have e2:(List.filter f (List.range n)++[n]).getD (List.filter f (List.range n)).length 0=n:=by
     rw [List.getD_eq_getElem?_getD,List.getElem?_append_right (Nat.le_refl _),Nat.sub_self];rfl
    rw [e2]
    exact ⟨by omega,hf,by rw [List.take_append_of_le_length (Nat.le_refl _),List.take_length]⟩
   ·have e1:[n].filter f=[]:=by simp [hf]
    rw [e1] at h
    simp at h
    omega
theorem filter_succ (f:Nat→Bool) (n:Nat):(List.range (n+1)).filter f=(List.range n).filter f++if f n then [n] else []:=by
 rw [List.range_succ,List.filter_append]
 congr 1
 by_cases h:f n=true
 ·rw [if_pos h];simp [h]
 ·rw [if_neg h];simp [h]
theorem filter_gap (f:Nat→Bool) {m x:Nat} (h:(List.range m).filter f=(List.range x).filter f):∀ i,m≤i→i < x→f i=false:=by
 intro i h1 h2
 cases e:f i with
 | false=>rfl
 | true=>
  have:i∈(List.range x).filter f:=List.mem_filter.2 ⟨List.mem_range.2 h2,e⟩
  rw [←h] at this
  have:=List.mem_range.1 (List.mem_filter.1 this).1
  omega
theorem filter_le (f:Nat→Bool) {m x:Nat} (h:(List.range m).filter f=(List.range x).filter f) (hx:f x=true):m≤x:=by
 rcases Nat.lt_or_ge x m with g | g
 ·have:x∈(List.range m).filter f:=List.mem_filter.2 ⟨List.mem_range.2 g,hx⟩
  rw [h] at this
  have:=List.mem_range.1 (List.mem_filter.1 this).1
  omega
 ·exact g
end Sha
end Go.Proofs.YtlhnegbjoncieaaGreatDoor
namespace Go.Proofs.YtlhnegbjoncieaaGreatDoor
namespace Sha
open Go.RowKit Mem
def SlCh (w:World) (v:Value) (C:List ChV):Prop:=
 ∃ a cap,v=.slice a C.length cap∧(C≠[]→∃ b o,a=some ⟨b,o,none⟩∧b < w.heap.size∧∀ i,i < C.length→w.cell? ⟨b,o+i*2,none⟩=some (.int .i64 (C.getD i zch).1)∧∃ u,w.cell? ⟨b,o+i*2+1,none⟩=some u∧Sl w u (C.getD i zch).2)
def SlNd (w:World) (v:Value) (N:List NdV):Prop:=
 ∃ a cap,v=.slice a N.length cap∧(N≠[]→∃ b o,a=some ⟨b,o,none⟩∧b < w.heap.size∧∀ i,i < N.length→w.cell? ⟨b,o+i*2,none⟩=some (.int .i64 (N.getD i znd).1)∧∃ u,w.cell? ⟨b,o+i*2+1,none⟩=some u∧SlRf w u (N.getD i znd).2)
theorem cell_keep {w w':World} {b o:Nat} (hb:Below w.heap.size w w') (hlt:b < w.heap.size):w'.cell? ⟨b,o,none⟩=w.cell? ⟨b,o,none⟩:=World.cell?_of_block (w:=w) (w':=w') (a:=⟨b,o,none⟩) (hb.block b hlt)
theorem SlCh.below {w w':World} {v:Value} {C:List ChV} (h:SlCh w v C) (hb:Below w.heap.size w w'):SlCh w' v C:=by
 obtain ⟨a,cap,e,hr⟩:=h
 refine ⟨a,cap,e,fun hne=>?_⟩
 obtain ⟨b,o,ea,hlt,hc⟩:=hr hne
 refine ⟨b,o,ea,Nat.lt_of_lt_of_le hlt hb.size,fun i hi=>?_⟩
 obtain ⟨c0,u,c1,hu⟩:=hc i hi
 exact ⟨(cell_keep hb hlt).trans c0,u,(cell_keep hb hlt).trans c1,hu.below hb⟩
theorem SlNd.below {w w':World} {v:Value} {N:List NdV} (h:SlNd w v N) (hb:Below w.heap.size w w'):SlNd w' v N:=by
 obtain ⟨a,cap,e,hr⟩:=h
 refine ⟨a,cap,e,fun hne=>?_⟩
 obtain ⟨b,o,ea,hlt,hc⟩:=hr hne
 refine ⟨b,o,ea,Nat.lt_of_lt_of_le hlt hb.size,fun i hi=>?_⟩
 obtain ⟨c0,u,c1,hu⟩:=hc i hi
 exact ⟨(cell_keep hb hlt).trans c0,u,(cell_keep hb hlt).trans c1,hu.below hb⟩
theorem SlCh.hd {w:World} {v:Value} {C:List ChV} (h:SlCh w v C):∃ a c,v=.slice a C.length c:=let ⟨a,c,e,_⟩:=h;⟨a,c,e⟩
theorem SlNd.hd {w:World} {v:Value} {N:List NdV} (h:SlNd w v N):∃ a c,v=.slice a N.length c:=let ⟨a,c,e,_⟩:=h;⟨a,c,e⟩
theorem SlCh.nil (w:World) (cap:Nat):SlCh w (.slice none 0 cap) []:=⟨none,cap,rfl,fun h=>absurd rfl h⟩
theorem SlNd.nil (w:World) (cap:Nat):SlNd w (.slice none 0 cap) []:=⟨none,cap,rfl,fun h=>absurd rfl h⟩
def SlNdG (G:Foot) (w:World) (v:Value) (N:List NdV):Prop:=∀ w2:World,w.heap.size≤w2.heap.size→(∀ k,G k→k < w.heap.size→w2.heap[k]?=w.heap[k]?)→SlNd w2 v N
theorem SlNdG.sl {G:Foot} {w:World} {v:Value} {N:List NdV} (h:SlNdG G w v N):SlNd w v N:=h w (Nat.le_refl _) fun _ _ _=>rfl
theorem SlNdG.keep {G:Foot} {w w':World} {v:Value} {N:List NdV} (h:SlNdG G w v N) (hs:w.heap.size≤w'.heap.size) (hk:∀ k,G k→k < w.heap.size→w'.heap[k]?=w.heap[k]?):SlNdG G w' v N:=
 fun w2 h2 k2=>h w2 (Nat.le_trans hs h2) fun k a b=>(k2 k a (Nat.lt_of_lt_of_le b hs)).trans (hk k a b)
theorem SlNdG.mono {G H:Foot} {w:World} {v:Value} {N:List NdV} (h:SlNdG G w v N) (hg:∀ k,G k→k < w.heap.size→H k):SlNdG H w v N:=
 fun w2 h2 k2=>h w2 h2 fun k a b=>k2 k (hg k a b) b
theorem SlNdG.nil (G:Foot) (w:World) (cap:Nat):SlNdG G w (.slice none 0 cap) []:=fun w2 _ _=>SlNd.nil w2 cap
theorem slch_at {w:World} {a:Option Addr} {n c i:Nat} {C:List ChV} (h:SlCh w (.slice a n c) C) (hn:n=C.length) (hi:i < n):∃ b o u,a=some ⟨b,o,none⟩∧b < w.heap.size∧w.cell? ⟨b,o+i*2,none⟩=some (.int .i64 (C.getD i zch).1)∧w.cell? ⟨b,o+i*2+1,none⟩=some u∧Sl w u (C.getD i zch).2:=by
 obtain ⟨a',c',e,hr⟩:=h
 obtain ⟨b,o,ea,hlt,hc⟩:=hr (by intro e0;subst e0;simp at hn;omega)
 injection e with e1 _ _
 obtain ⟨c0,u,c1,hu⟩:=hc i (by omega)
 exact ⟨b,o,u,e1.trans ea,hlt,c0,c1,hu⟩
theorem slnd_at {w:World} {a:Option Addr} {n c i:Nat} {N:List NdV} (h:SlNd w (.slice a n c) N) (hn:n=N.length) (hi:i < n):∃ b o u,a=some ⟨b,o,none⟩∧b < w.heap.size∧w.cell? ⟨b,o+i*2,none⟩=some (.int .i64 (N.getD i znd).1)∧w.cell? ⟨b,o+i*2+1,none⟩=some u∧SlRf w u (N.getD i znd).2:=by
 obtain ⟨a',c',e,hr⟩:=h
 obtain ⟨b,o,ea,hlt,hc⟩:=hr (by intro e0;subst e0;simp at hn;omega)
 injection e with e1 _ _
 obtain ⟨c0,u,c1,hu⟩:=hc i (by omega)
 exact ⟨b,o,u,e1.trans ea,hlt,c0,c1,hu⟩
theorem find_step (N:List NdV) (z:Int) (j:Nat) (hj:j < N.length) (h:∀ i,i < j→(N.getD i znd).1≠z) (he:(N.getD j znd).1=z):findT N z=some (N.getD j znd).2:=by
 have ej:N.getD j znd=N[j]:=by rw [List.getD_eq_getElem?_getD,List.getElem?_eq_getElem hj,Option.getD_some]
 unfold findT
 have e:N.find? (fun n=>n.1 == z)=some N[j]:=by
  rw [List.find?_eq_some_iff_getElem]
  rw [ej] at he
  refine ⟨by simp [he],j,hj,rfl,fun i hi=>?_⟩
  have g:=h i hi
  have ei:N.getD i znd=N[i]:=by rw [List.getD_eq_getElem?_getD,List.getElem?_eq_getElem (by omega),Option.getD_some]
  rw [ei] at g
  simp [g]
 rw [e,ej]
 rfl
theorem find_end (N:List NdV) (z:Int) (h:∀ i,i < N.length→(N.getD i znd).1≠z):findT N z=none:=by
 unfold findT
 rw [List.find?_eq_none.2]
 ·rfl
 ·intro n hn e
  obtain ⟨i,hi,e2⟩:=List.mem_iff_getElem.1 hn
  have g:=h i hi
  rw [List.getD_eq_getElem?_getD,List.getElem?_eq_getElem hi,Option.getD_some,e2] at g
  exact g (by simpa using e)
def nxtC (C:List ChV) (j:Nat):Int:=if j=0 then 0 else (C.getD (j - 1) zch).1+1
def okCh (p:Nat) (C:List ChV) (j:Nat):Prop:=nxtC C j≤(C.getD j zch).1∧(C.getD j zch).1 < (p:Int)∧(C.getD j zch).2.length=256
theorem rise_iff (p:Nat) (C:List ChV):riseT p C ↔ ∀ j,j < C.length→okCh p C j:=by
 constructor
 ·intro h j hj
  obtain ⟨⟨a,b⟩,c,d⟩:=h j hj
  refine ⟨?_,b,c⟩
  unfold nxtC
  by_cases e:j=0
  ·rw [if_pos e];exact a
  ·rw [if_neg e];have:=d (by omega);omega
 ·intro h
  have hlo:∀ j,j < C.length→0≤(C.getD j zch).1:=by
   intro j
   induction j with
   | zero=>intro hj;have:=(h 0 hj).1;unfold nxtC at this;rw [if_pos rfl] at this;exact this
   | succ j ih=>
    intro hj
    have a:=(h (j+1) hj).1
    unfold nxtC at a
    rw [if_neg (by omega),Nat.add_sub_cancel] at a
    have:=ih (by omega)
    omega
  intro j hj
  obtain ⟨a,b,c⟩:=h j hj
  refine ⟨⟨hlo j hj,b⟩,c,fun h0=>?_⟩
  unfold nxtC at a
  rw [if_neg (by omega)] at a
  omega
theorem nxt_le (p:Nat) (C:List ChV) (j:Nat) (_hj:j≤C.length) (h:∀ i,i < j→okCh p C i):0≤nxtC C j∧nxtC C j≤(p:Int):=by
 have hlo:∀ i,i < j→0≤(C.getD i zch).1:=by
  intro i
  induction i with
  | zero=>intro hi;have:=(h 0 hi).1;unfold nxtC at this;rw [if_pos rfl] at this;exact this
  | succ i ih=>
   intro hi
   have a:=(h (i+1) hi).1
   unfold nxtC at a
   rw [if_neg (by omega),Nat.add_sub_cancel] at a
   have:=ih (by omega)
   omega
 unfold nxtC
 by_cases e:j=0
 ·rw [if_pos e];omega
 ·rw [if_neg e]
  have a:=hlo (j - 1) (by omega)
  have b:=(h (j - 1) (by omega)).2.1
  omega
end Sha
end Go.Proofs.YtlhnegbjoncieaaGreatDoor
namespace Go.Proofs.YtlhnegbjoncieaaGreatDoor
namespace Sha
open Go.RowKit Mem
theorem KZ_node (p i:Nat) (hi:p≤i) (hit:i < itn p):(KZ p (i:Int)).length=many p i:=by
 unfold KZ
 rw [if_pos ⟨by omega,by omega⟩,kz_length,Int.toNat_natCast]
theorem kids_len {p i:Nat} {pg:Lb8} (hi:p≤i) (hit:i < itn p) (h:(kidsT p (i:Int) pg).2=0):(kidsT p (i:Int) pg).1.length=many p i∧layN (kidsT p (i:Int) pg).1=(pg,0):=by
 unfold kidsT at *
 rw [KZ_node p i hi hit] at *
 split at h
 ·cases h
 ·rename_i h2
  rw [if_neg h2]
  have g:=parseN_ok (p:=pg) (z:=((many p i:Nat):Int)) (K:=(parseN pg ((many p i:Nat):Int)).1) (Prod.ext rfl h)
  exact ⟨by have:=g.2;omega,g.1⟩
section
variable {R:List RefV} {f:Nat} {L:List RefV}
theorem laidR_length (h:f+L.length≤R.length):(laidR R f L).length=R.length:=by simp [laidR];omega
theorem laidR_in {t:Nat} (h:f+L.length≤R.length) (ht:t < L.length):(laidR R f L).getD (f+t) zref=L.getD t zref:=by
 unfold laidR
 have e:(R.take f).length=f:=by rw [List.length_take];omega
 rw [List.getD_eq_getElem?_getD,List.append_assoc,List.getElem?_append_right (by omega),e,Nat.add_sub_cancel_left,List.getElem?_append_left ht,←List.getD_eq_getElem?_getD]
theorem laidR_out {j:Nat} (h:f+L.length≤R.length) (hj:j < f∨f+L.length≤j):(laidR R f L).getD j zref=R.getD j zref:=by
 unfold laidR
 have e:(R.take f).length=f:=by rw [List.length_take];omega
 rw [List.getD_eq_getElem?_getD,List.append_assoc,List.getD_eq_getElem?_getD]
 rcases hj with g | g
 ·rw [List.getElem?_append_left (by omega),List.getElem?_take,if_pos g]
 ·rw [List.getElem?_append_right (by omega),e,List.getElem?_append_right (by omega),List.getElem?_drop]
  congr 2
  omega
end
structure TrInv (B key:Lb8) (p:Nat) (root:RefV) (k:Nat) (R:List RefV) (G:List (Lb8)):Prop where
 lr:R.length=itn p
 lg:G.length=p
 rt:R.getD (itn p - 1) zref=root
 ok:∀ i:Nat,itn p≤i+k→i < itn p→(fetchT B key p (i:Int) (R.getD i zref)).2=0∧(i < p→G.getD i []=(fetchT B key p (i:Int) (R.getD i zref)).1)∧(p≤i→(kidsT p (i:Int) (fetchT B key p (i:Int) (R.getD i zref)).1).2=0∧∀ t,t < many p i→R.getD (fst p i+t) zref=(kidsT p (i:Int) (fetchT B key p (i:Int) (R.getD i zref)).1).1.getD t zref)
section
variable {B key:Lb8} {p:Nat} {root:RefV}
theorem winv_zero (h0:1≤p) (h1:p≤216):TrInv B key p root 0 (List.replicate (itn p - 1) zref++[root]) (List.replicate p []):=by
 have hb:=itn_big p h0 h1
 refine ⟨by simp;omega,by simp,?_,fun i h2 h3=>by omega⟩
 rw [List.getD_eq_getElem?_getD,List.getElem?_append_right (by simp)]
 simp
theorem winv_page {k:Nat} {R:List RefV} {G:List (Lb8)} (W:TrInv B key p root k R G) (hk:k < itn p) (hp:itn p - (k+1) < p) (hf:(fetchT B key p ((itn p - (k+1):Nat):Int) (R.getD (itn p - (k+1)) zref)).2=0) :
 TrInv B key p root (k+1) R (G.set (itn p - (k+1)) (fetchT B key p ((itn p - (k+1):Nat):Int) (R.getD (itn p - (k+1)) zref)).1):=by
 have hlg:=W.lg
 refine ⟨W.lr,by rw [List.length_set];exact W.lg,W.rt,fun i h2 h3=>?_⟩
 by_cases he:i=itn p - (k+1)
 ·subst he
  refine ⟨hf,fun _=>?_,fun h=>by omega⟩
  rw [List.getD_eq_getElem?_getD,List.getElem?_set_self (by omega)]
  rfl
 ·obtain ⟨a,b,c⟩:=W.ok i (by omega) h3
  refine ⟨a,fun h=>?_,c⟩
  rw [List.getD_eq_getElem?_getD,List.getElem?_set_ne (by omega),←List.getD_eq_getElem?_getD]
  exact b h
theorem winv_node (h0:1≤p) (h1:p≤216) {k:Nat} {R:List RefV} {G:List (Lb8)} (W:TrInv B key p root k R G) (hk:k < itn p) (hp:p≤itn p - (k+1)) (hf:(fetchT B key p ((itn p - (k+1):Nat):Int) (R.getD (itn p - (k+1)) zref)).2=0)
 (hg:(kidsT p ((itn p - (k+1):Nat):Int) (fetchT B key p ((itn p - (k+1):Nat):Int) (R.getD (itn p - (k+1)) zref)).1).2=0) :
 TrInv B key p root (k+1) (laidR R (fst p (itn p - (k+1))) (kidsT p ((itn p - (k+1):Nat):Int) (fetchT B key p ((itn p - (k+1):Nat):Int) (R.getD (itn p - (k+1)) zref)).1).1) G:=by
 obtain ⟨i,hi⟩:∃ i,i=itn p - (k+1):=⟨_,rfl⟩
 rw [←hi] at hp hf hg ⊢
 have hit:i < itn p:=by omega
 have hlr:=W.lr
 have hl:=(kids_len hp hit hg).1
 obtain ⟨n1,n2⟩:=node_kids p i h0 h1 hp hit
 obtain ⟨L,hL⟩:∃ L,L=(kidsT p (i:Int) (fetchT B key p (i:Int) (R.getD i zref)).1).1:=⟨_,rfl⟩
 rw [←hL] at hl ⊢
 have hfit:fst p i+L.length≤R.length:=by omega
 have keep:∀ j,i≤j→(laidR R (fst p i) L).getD j zref=R.getD j zref:=fun j hj=>laidR_out hfit (.inr (by omega))
 refine ⟨by rw [laidR_length hfit];exact hlr,W.lg,by rw [keep _ (by omega)];exact W.rt,fun j h2 h3=>?_⟩
 by_cases he:j=i
 ·subst he
  rw [keep _ (Nat.le_refl _)]
  refine ⟨hf,fun h=>by omega,fun _=>⟨hg,fun t ht=>?_⟩⟩
  rw [laidR_in hfit (by omega),hL]
 ·obtain ⟨a,b,c⟩:=W.ok j (by omega) h3
  rw [keep j (by omega)]
  refine ⟨a,b,fun h=>⟨(c h).1,fun t ht=>?_⟩⟩
  rw [←(c h).2 t ht]
  refine laidR_out hfit ?_
  rcases Nat.lt_or_ge (fst p j+t) (fst p i) with g | g
  ·exact .inl g
  ·rcases Nat.lt_or_ge (fst p j+t) (fst p i+L.length) with q | q
   ·exfalso
    have e1:=(kid_iff p j (fst p j+t) t h0 h1 h h3).1 ⟨ht,rfl⟩
    have e2:=(kid_iff p i (fst p j+t) (fst p j+t - fst p i) h0 h1 hp hit).1 ⟨by omega,by omega⟩
    have e3:=e1.2.symm.trans e2.2
    injection e3 with e3 _
    exact he e3
   ·exact .inr q
theorem whole_inv (h0:1≤p) (h1:p≤216):∀ k,k≤itn p→(wholeG B key p root k).2.2=0→TrInv B key p root k (wholeG B key p root k).1 (wholeG B key p root k).2.1:=by
 intro k
 induction k with
 | zero=>intro _ _;exact winv_zero h0 h1
 | succ k ih=>
  intro hk he
  have W:=ih (by omega)
  unfold wholeG at he ⊢
  generalize wholeG B key p root k=S at *
  split at he
  ·rename_i g;exact absurd he g
  ·rename_i g0
   have W:=W (Decidable.not_not.1 g0)
   rw [if_neg g0]
   split at he
   ·rename_i g;exact absurd he g
   ·rename_i g1
    rw [if_neg g1]
    split at he
    ·rename_i g2
     rw [if_pos g2]
     exact winv_page W (by omega) g2 (Decidable.not_not.1 g1)
    ·rename_i g2
     rw [if_neg g2]
     split at he
     ·rename_i g;exact absurd he g
     ·rename_i g3
      rw [if_neg g3]
      exact winv_node h0 h1 W (by omega) (by omega) (Decidable.not_not.1 g1) (Decidable.not_not.1 g3)
theorem whole_stop:∀ n,(wholeG B key p root n).2.2≠0→∃ k,k < n∧(wholeG B key p root k).2.2=0∧(wholeG B key p root (k+1)).2.2≠0:=by
 intro n
 induction n with
 | zero=>intro h;exact absurd rfl h
 | succ n ih=>
  intro h
  by_cases g:(wholeG B key p root n).2.2=0
  ·exact ⟨n,by omega,g,h⟩
  ·obtain ⟨k,h1,h2⟩:=ih g
   exact ⟨k,by omega,h2⟩
theorem whole_why {k:Nat} (h:(wholeG B key p root k).2.2=0) (h2:(wholeG B key p root (k+1)).2.2≠0) :
 (fetchT B key p ((itn p - (k+1):Nat):Int) ((wholeG B key p root k).1.getD (itn p - (k+1)) zref)).2≠0∨(p≤itn p - (k+1)∧(fetchT B key p ((itn p - (k+1):Nat):Int) ((wholeG B key p root k).1.getD (itn p - (k+1)) zref)).2=0∧(kidsT p ((itn p - (k+1):Nat):Int) (fetchT B key p ((itn p - (k+1):Nat):Int) ((wholeG B key p root k).1.getD (itn p - (k+1)) zref)).1).2≠0):=by
 unfold wholeG at h2
 rw [if_neg (fun g=>g h)] at h2
 split at h2
 ·rename_i g;exact .inl g
 ·rename_i g1
  split at h2
  ·exact absurd rfl h2
  ·split at h2
   ·rename_i g2 g3
    exact .inr ⟨by omega,Decidable.not_not.1 g1,g3⟩
   ·exact absurd rfl h2
end
section
end
end Sha
end Go.Proofs.YtlhnegbjoncieaaGreatDoor
namespace Go.Proofs.YtlhnegbjoncieaaGreatDoor
namespace Sha
open Go.RowKit Mem
def putsT (key:Lb8) (ep:BitVec 32) (P:List (Lb8)):List (Nat × Lb8):=(List.range (itn P.length)).map fun i=>(2+2*i,selT key ep P i)
theorem putsT_length (key:Lb8) (ep:BitVec 32) (P:List (Lb8)):(putsT key ep P).length=itn P.length:=by simp [putsT]
theorem putsT_get (key:Lb8) (ep:BitVec 32) (P:List (Lb8)) (i:Nat) (h:i < itn P.length):(putsT key ep P).getD i (0,[])=(2+2*i,selT key ep P i):=by simp [putsT,List.getD_eq_getElem?_getD,h]
theorem makeT_ok (key:Lb8) (ep:BitVec 32) {P:List (Lb8)} (hP:GoodP P):makeT key ep P=(putsT key ep P,refT key ep P (itn P.length - 1),0):=by
 unfold makeT
 rw [if_pos ⟨hP.p0,hP.p1,by rw [List.all_eq_true];intro x hx;simp [hP.len x hx]⟩]
 rfl
def layS (s:St6) (L:List (Nat × Lb8)):St6:={ s with w:=s.w++L,t:=s.t++L.map fun q=>(q.1:Int) }
structure Rd6 (s:St6) (B:Lb8):Prop where
 len:B.length=s.b.length
 rd:∀ n,n < s.n→stRead s n=blkOf B n
theorem Rd6.nil {s:St6} (h:s.w=[]):Rd6 s s.b:=⟨rfl,fun n _=>by unfold stRead;rw [h];rfl⟩
theorem layS_nil (s:St6):layS s []=s:=by
 obtain ⟨n,b,w,sh,t⟩:=s
 simp [layS]
theorem layS_snoc (s:St6) (L:List (Nat × Lb8)) (q:Nat × Lb8):layS s (L++[q])=dvWrite (layS s L) q.1 q.2:=by
 obtain ⟨n,b,w,sh,t⟩:=s
 simp [layS,dvWrite]
def stImg (key:Lb8) (ep:BitVec 32) (P:List (Lb8)):St6:=stFlush (layS (stNew (2+2*itn P.length)) (putsT key ep P))
theorem ok_lay {m:Nat} {s:St6} (h:Ok6 m s) (L:List (Nat × Lb8)) (hq:∀ q∈L,q.1 < s.n∧q.2.length=256):Ok6 (m+L.length) (layS s L):=by
 have hall:∀ j,j≤L.length→Ok6 (m+j) (layS s (L.take j)):=by
  intro j
  induction j with
  | zero=>intro _;rw [List.take_zero,layS_nil];exact h
  | succ j ih=>
   intro hj
   have e:L.take (j+1)=L.take j++[L[j]]:=by rw [List.take_add_one,List.getElem?_eq_getElem (by omega)];rfl
   have hm:=hq L[j] (List.getElem_mem _)
   rw [e,layS_snoc]
   exact ok_write (ih (by omega)) _ _ hm.1 hm.2
 have:=hall L.length (Nat.le_refl _)
 rwa [List.take_length] at this
section
variable {key:Lb8} {ep:BitVec 32} {P:List (Lb8)}
theorem puts_ok (hP:GoodP P):∀ q∈putsT key ep P,q.1 < 2+2*itn P.length∧q.2.length=256:=by
 intro q hq
 obtain ⟨i,hi,rfl⟩:=List.mem_map.1 hq
 have hi:=List.mem_range.1 hi
 exact ⟨by show 2+2*i < _;omega,selT_length hP i hi⟩
theorem img_lay_ok (hP:GoodP P):Ok6 (itn P.length) (layS (stNew (2+2*itn P.length)) (putsT key ep P)):=by
 have hb:=itn_big P.length hP.p0 hP.p1
 have h:=ok_lay (ok_new (2+2*itn P.length) (by omega) (by omega)) (putsT key ep P) (puts_ok hP)
 rw [putsT_length,Nat.zero_add] at h
 exact h
theorem img_ok (hP:GoodP P):Ok6 (itn P.length+1) (stImg key ep P):=ok_flush (img_lay_ok hP)
theorem img_b (hP:GoodP P):(stImg key ep P).b.length=(2+2*itn P.length)*256:=(img_ok hP).b
def Blks (key:Lb8) (ep:BitVec 32) (P:List (Lb8)) (B:Lb8):Prop:=∀ i,i < itn P.length→blkOf B (2+2*i)=selT key ep P i
theorem img_blks (hP:GoodP P):Blks key ep P (stImg key ep P).b:=by
 intro i hi
 have ho:=img_lay_ok (key:=key) (ep:=ep) hP
 have hw:(layS (stNew (2+2*itn P.length)) (putsT key ep P)).w=putsT key ep P:=by simp [layS,stNew]
 have hn:(layS (stNew (2+2*itn P.length)) (putsT key ep P)).n=2+2*itn P.length:=rfl
 have hb:=ho.b
 have hwf:=ho.wf
 rw [hn] at hb hwf
 rw [hw] at hwf
 have hf:=readTo_flush hwf hb (k:=2+2*i) (by omega) (putsT key ep P).length (Nat.le_refl _)
 show blkOf (flushTo (layS (stNew (2+2*itn P.length)) (putsT key ep P)).w _ (layS (stNew (2+2*itn P.length)) (putsT key ep P)).w.length) _=_
 rw [hw,hf]
 have hr:∀ d j,i < j→j≤itn P.length→readTo (2+2*i) d (putsT key ep P) j=selT key ep P i:=by
  intro d j
  induction j with
  | zero=>intro h;omega
  | succ j ih=>
   intro h1 h2
   rw [readTo,putsT_get key ep P j (by omega)]
   by_cases e:i=j
   ·subst e;rw [if_pos rfl]
   ·rw [if_neg (by show ¬ 2+2*j=_;omega)]
    exact ih (by omega) (by omega)
 rw [putsT_length]
 exact hr _ _ hi (Nat.le_refl _)
variable {B:Lb8}
theorem fetch_made (hP:GoodP P) (hB:B.length=(2+2*itn P.length)*256) (hK:Blks key ep P B) (i:Nat) (hi:i < itn P.length):fetchT B key P.length (i:Int) (refT key ep P i)=(pgT key ep P i,0):=by
 have e:BZ P.length (i:Int) (refT key ep P i).pl=2+2*(i:Int):=by
  rw [refT_pl]
  have:=BZ_at P.length i 0 hi (by omega)
  simpa using this
 unfold fetchT
 rw [e,if_neg (by omega),show (2+2*(i:Int)).toNat=2+2*i by omega,hK i hi]
 exact open_made hP i hi
theorem kids_made (hP:GoodP P) (i:Nat) (hp:P.length≤i) (hi:i < itn P.length):kidsT P.length (i:Int) (pgT key ep P i)=(kidR P.length (refsT key ep P i) i,0):=by
 have hn:=node_kids P.length i hP.p0 hP.p1 hp hi
 have hl:(kidR P.length (refsT key ep P i) i).length=many P.length i:=kidR_length _ _ _ (by rw [refsT_length];omega)
 have hlay:layN (kidR P.length (refsT key ep P i) i)=(pgT key ep P i,0):=by
  unfold pgT pageI
  rw [if_neg (by omega)]
  exact Prod.ext rfl (node_lay hP i i hp hi (Nat.le_refl _))
 unfold kidsT
 rw [KZ_node P.length i hp hi,if_neg (by omega),←hl]
 exact lay_parse (kidR_wf _ (refsT_wf i) i) hlay
theorem back_refs (hP:GoodP P) (hB:B.length=(2+2*itn P.length)*256) (hK:Blks key ep P B) {k:Nat} {R:List RefV} {G:List (Lb8)} (W:TrInv B key P.length (refT key ep P (itn P.length - 1)) k R G) :
 ∀ d i,itn P.length≤i+d→itn P.length≤i+k+1→i < itn P.length→R.getD i zref=refT key ep P i:=by
 intro d
 induction d with
 | zero=>intro i h1 _ h3;omega
 | succ d ih=>
  intro i h1 h2 h3
  by_cases hr:i+1 < itn P.length
  ·have hpl:=par_lev P.length i hP.p0 hP.p1 hr
   have hq:=(kid_iff P.length (parN P.length i).1 i (parN P.length i).2 hP.p0 hP.p1 hpl.2.2.2.1 hpl.2.2.1).2 ⟨hr,rfl⟩
   have hn:=node_kids P.length _ hP.p0 hP.p1 hpl.2.2.2.1 hpl.2.2.1
   obtain ⟨q,hqq⟩:∃ q,q=(parN P.length i).1:=⟨_,rfl⟩
   obtain ⟨t,ht⟩:∃ t,t=(parN P.length i).2:=⟨_,rfl⟩
   rw [←hqq] at hpl hn
   rw [←hqq,←ht] at hq
   have hgt:i < q:=by omega
   have hRq:=ih q (by omega) (by omega) hpl.2.2.1
   obtain ⟨_,_,o⟩:=W.ok q (by omega) hpl.2.2.1
   have o2:=(o hpl.2.2.2.1).2 t hq.1
   rw [hRq,fetch_made hP hB hK q hpl.2.2.1,kids_made hP q hpl.2.2.2.1 hpl.2.2.1,hq.2] at o2
   rw [o2]
   show (kidR P.length (refsT key ep P q) q).getD t zref=_
   rw [kidR_get _ _ _ _ hq.1,hq.2,refsT_get key ep P q i (by omega)]
  ·have e:i=itn P.length - 1:=by omega
   rw [e]
   exact W.rt
theorem back_ok (hP:GoodP P) (hB:B.length=(2+2*itn P.length)*256) (hK:Blks key ep P B):(wholeG B key P.length (refT key ep P (itn P.length - 1)) (itn P.length)).2.2=0:=by
 refine Decidable.not_not.1 fun h=>?_
 obtain ⟨k,hk,g0,g1⟩:=whole_stop (itn P.length) h
 have W:=whole_inv hP.p0 hP.p1 k (by omega) g0
 have hr:=back_refs hP hB hK W (itn P.length) (itn P.length - (k+1)) (by omega) (by omega) (by omega)
 have hw:=whole_why g0 g1
 rw [hr,fetch_made hP hB hK _ (by omega)] at hw
 rcases hw with a | ⟨a,_,b⟩
 ·exact a rfl
 ·rw [kids_made hP _ a (by omega)] at b
  exact b rfl
theorem backT (hP:GoodP P) (hB:B.length=(2+2*itn P.length)*256) (hK:Blks key ep P B):wholeT B key P.length (refT key ep P (itn P.length - 1))=(refsT key ep P (itn P.length),P,0):=by
 have h:=back_ok hP hB hK
 have W:=whole_inv hP.p0 hP.p1 (itn P.length) (Nat.le_refl _) h
 have hb:=itn_big P.length hP.p0 hP.p1
 unfold wholeT
 rw [if_neg (fun g=>g h)]
 have hR:(wholeG B key P.length (refT key ep P (itn P.length - 1)) (itn P.length)).1=refsT key ep P (itn P.length):=by
  apply List.ext_getElem
  ·rw [W.lr,refsT_length]
  ·intro i h1 h2
   have hi:i < itn P.length:=by rw [W.lr] at h1;exact h1
   have a:=back_refs hP hB hK W (itn P.length) i (by omega) (by omega) hi
   rw [←refsT_get key ep P (itn P.length) i hi,List.getD_eq_getElem?_getD,List.getD_eq_getElem?_getD,List.getElem?_eq_getElem h1,List.getElem?_eq_getElem h2] at a
   exact a
 have hG:(wholeG B key P.length (refT key ep P (itn P.length - 1)) (itn P.length)).2.1=P:=by
  apply List.ext_getElem
  ·rw [W.lg]
  ·intro i h1 h2
   have a:=(W.ok i (by omega) (by omega)).2.1 h2
   rw [back_refs hP hB hK W (itn P.length) i (by omega) (by omega) (by omega),fetch_made hP hB hK i (by omega)] at a
   have e:pgT key ep P i=P.getD i []:=if_pos h2
   simp only [e] at a
   rw [List.getD_eq_getElem?_getD,List.getD_eq_getElem?_getD,List.getElem?_eq_getElem h1,List.getElem?_eq_getElem h2] at a
   exact a
 exact Prod.ext hR (Prod.ext hG h)
end
end Sha
end Go.Proofs.YtlhnegbjoncieaaGreatDoor
namespace Go.Proofs.YtlhnegbjoncieaaGreatDoor
namespace Sha
open Go.RowKit Mem
def TT (w:World):Prop:=Tabs w∧CTabs w
theorem TT.below {w w':World} (h:TT w) (hb:Below w.heap.size w w'):TT w':=⟨h.1.below hb (Nat.le_refl _),h.2.below hb (Nat.le_refl _)⟩
def MkEnd (w:World) (t:List (Nat × Lb8) × RefV × Int) (e:Ending) (w':World):Prop:=∃ v,e=.returned (.tuple #[v,.agg (refC t.2.1),.int .i64 t.2.2])∧WPut (fun k=>w.heap.size≤k) w' v t.1∧Below w.heap.size w w'
def WhEnd (w:World) (t:List RefV × List (Lb8) × Int) (e:Ending) (w':World):Prop:=∃ vr vp,e=.returned (.tuple #[vr,vp,.int .i64 t.2.2])∧SlRf w' vr t.1∧Sls w' vp t.2.1∧Below w.heap.size w w'
end Sha
end Go.Proofs.YtlhnegbjoncieaaGreatDoor
namespace Go.Proofs.YtlhnegbjoncieaaGreatDoor
namespace Sha
open Go.RowKit Mem
def fkT (B key:Lb8) (p:Nat) (z:Int) (r:RefV):List RefV × Int:=if (fetchT B key p z r).2≠0 then ([],(fetchT B key p z r).2) else kidsT p z (fetchT B key p z r).1
theorem kidsT_wf (p:Nat) (z:Int) (pg:Lb8):∀ r∈(kidsT p z pg).1,r.Wf:=by
 unfold kidsT parseN
 intro r hr
 split at hr
 ·cases hr
 ·split at hr
  ·cases hr
  ·split at hr
   ·cases hr
   ·exact allN_wf pg r hr
theorem fkT_wf (B key:Lb8) (p:Nat) (z:Int) (x:RefV):∀ r∈(fkT B key p z x).1,r.Wf:=by
 unfold fkT
 intro r hr
 split at hr
 ·cases hr
 ·exact kidsT_wf _ _ _ r hr
theorem fkT_ok {B key:Lb8} {p:Nat} {z:Int} {x:RefV} (h:(fetchT B key p z x).2=0):fkT B key p z x=kidsT p z (fetchT B key p z x).1:=by
 unfold fkT;rw [if_neg (fun n=>n h)]
theorem fkT_no {B key:Lb8} {p:Nat} {z:Int} {x:RefV} (h:(fetchT B key p z x).2≠0):fkT B key p z x=([],(fetchT B key p z x).2):=by
 unfold fkT;rw [if_pos h]
theorem fkT_len {B key:Lb8} {p i:Nat} {x:RefV} (hi:p≤i) (hit:i < itn p) (h:(fkT B key p (i:Int) x).2=0):(fkT B key p (i:Int) x).1.length=many p i:=by
 unfold fkT at *
 by_cases g:(fetchT B key p (i:Int) x).2=0
 ·rw [if_neg (fun n=>n g)] at h ⊢
  exact (kids_len hi hit h).1
 ·rw [if_pos g] at h
  exact absurd h g
section
variable {R:List RefV} {f:Nat} {L:List RefV}
theorem laidR_none:laidR R f []=R:=by simp [laidR]
theorem laidR_set {t:Nat} (h:f+L.length≤R.length) (ht:t < L.length):(laidR R f (L.take t)).set (f+t) (L.getD t zref)=laidR R f (L.take (t+1)):=by
 have e1:(R.take f).length=f:=by rw [List.length_take];omega
 have e2:(L.take t).length=t:=by rw [List.length_take];omega
 have e3:(L.take (t+1)).length=t+1:=by rw [List.length_take];omega
 have hd:R.drop (f+t)=R[f+t]'(by omega)::R.drop (f+(t+1)):=by rw [List.drop_eq_getElem_cons (by omega)];rfl
 have hk:L.take (t+1)=L.take t++[L.getD t zref]:=by rw [List.take_add_one,List.getElem?_eq_getElem ht,List.getD_eq_getElem?_getD,List.getElem?_eq_getElem ht];rfl
 unfold laidR
 rw [e2,e3,List.set_append_right _ _ (by rw [List.length_append,e1,e2];exact Nat.le_refl _),List.length_append,e1,e2,Nat.sub_self,hd,hk,List.set_cons_zero]
 simp [List.append_assoc]
theorem laidR_wf (hR:∀ r∈R,r.Wf) (hL:∀ r∈L,r.Wf):∀ r∈laidR R f L,r.Wf:=by
 intro r hr
 unfold laidR at hr
 rcases List.mem_append.1 hr with h | h
 ·rcases List.mem_append.1 h with h | h
  ·exact hR r (List.mem_of_mem_take h)
  ·exact hL r h
 ·exact hR r (List.mem_of_mem_drop h)
end
section
variable {B key:Lb8} {p:Nat} {root:RefV}
theorem wholeG_node {k:Nat} (h:(wholeG B key p root k).2.2=0) (hp:p≤itn p - (k+1)):wholeG B key p root (k+1)=if (fkT B key p ((itn p - (k+1):Nat):Int) ((wholeG B key p root k).1.getD (itn p - (k+1)) zref)).2≠0 then ([],[],(fkT B key p ((itn p - (k+1):Nat):Int) ((wholeG B key p root k).1.getD (itn p - (k+1)) zref)).2) else (laidR (wholeG B key p root k).1 (fst p (itn p - (k+1))) (fkT B key p ((itn p - (k+1):Nat):Int) ((wholeG B key p root k).1.getD (itn p - (k+1)) zref)).1,(wholeG B key p root k).2.1,0):=by
 rw [wholeG,if_neg (fun n=>n h)]
 by_cases g:(fetchT B key p ((itn p - (k+1):Nat):Int) ((wholeG B key p root k).1.getD (itn p - (k+1)) zref)).2=0
 ·rw [if_neg (fun n=>n g),if_neg (by omega),fkT_ok g]
 ·rw [if_pos g,fkT_no g,if_pos g]
theorem wholeG_page {k:Nat} (h:(wholeG B key p root k).2.2=0) (hp:itn p - (k+1) < p):wholeG B key p root (k+1)=if (fetchT B key p ((itn p - (k+1):Nat):Int) ((wholeG B key p root k).1.getD (itn p - (k+1)) zref)).2≠0 then ([],[],(fetchT B key p ((itn p - (k+1):Nat):Int) ((wholeG B key p root k).1.getD (itn p - (k+1)) zref)).2) else ((wholeG B key p root k).1,(wholeG B key p root k).2.1.set (itn p - (k+1)) (fetchT B key p ((itn p - (k+1):Nat):Int) ((wholeG B key p root k).1.getD (itn p - (k+1)) zref)).1,0):=by
 rw [wholeG,if_neg (fun n=>n h),if_pos hp]
theorem wholeG_err {k:Nat} {e:Int} (h:(wholeG B key p root k).2.2=e) (he:e≠0):∀ n,k≤n→(wholeG B key p root n).2.2=e:=by
 intro n hn
 induction n with
 | zero=>rw [show 0=k by omega];exact h
 | succ n ih=>
  rcases Nat.lt_or_ge n k with g | g
  ·rw [show n+1=k by omega];exact h
  ·have i:=ih g
   rw [wholeG,if_pos (by rw [i];exact he)]
   exact i
theorem wholeT_err {k:Nat} {e:Int} (hk:k≤itn p) (h:(wholeG B key p root k).2.2=e) (he:e≠0):wholeT B key p root=([],[],e):=by
 have g:=wholeG_err h he (itn p) hk
 unfold wholeT
 rw [if_pos (by rw [g];exact he),g]
theorem wholeT_good (h:(wholeG B key p root (itn p)).2.2=0):wholeT B key p root=wholeG B key p root (itn p):=by
 unfold wholeT
 rw [if_neg (fun n=>n h)]
theorem wholeG_none:∀ k,k+p≤itn p→(wholeG B key p root k).2.2=0→(wholeG B key p root k).2.1=List.replicate p []:=by
 intro k
 induction k with
 | zero=>intro _ _;rfl
 | succ k ih=>
  intro hk h
  have h0:(wholeG B key p root k).2.2=0:=by
   rcases Classical.em ((wholeG B key p root k).2.2=0) with g | g
   ·exact g
   ·exact absurd (wholeG_err rfl g (k+1) (Nat.le_succ _)) (by rw [h];exact fun x=>g x.symm)
  have i:=ih (by omega) h0
  rw [wholeG_node h0 (by omega)] at h ⊢
  split at h
  ·exact absurd h (by assumption)
  ·rename_i g
   rw [if_neg g]
   exact i
theorem wholeG_wf (hr:root.Wf):∀ k,∀ r∈(wholeG B key p root k).1,r.Wf:=by
 intro k
 induction k with
 | zero=>
  intro r h
  rcases List.mem_append.1 h with h | h
  ·rw [List.eq_of_mem_replicate h];exact zref_wf
  ·rw [List.mem_singleton.1 h];exact hr
 | succ k ih=>
  intro r h
  rcases Classical.em ((wholeG B key p root k).2.2=0) with g | g
  ·rcases Nat.lt_or_ge (itn p - (k+1)) p with q | q
   ·rw [wholeG_page g q] at h
    split at h
    ·cases h
    ·exact ih r h
   ·rw [wholeG_node g q] at h
    split at h
    ·cases h
    ·exact laidR_wf ih (fkT_wf _ _ _ _ _) r h
  ·rw [wholeG,if_pos g] at h
   cases h
end
end Sha
end Go.Proofs.YtlhnegbjoncieaaGreatDoor
namespace Go.Proofs.YtlhnegbjoncieaaGreatDoor
namespace Sha
open Go.RowKit Mem
def blkI (R:List RefV) (i:Nat):Nat:=2+2*i+(R.getD i zref).pl.toNat
structure ImgC (B key:Lb8) (p:Nat) (R:List RefV) (P:List (Lb8)):Prop where
 h0:1≤p
 h1:p≤216
 lr:R.length=itn p
 lp:P.length=p
 len:∀ x∈P,x.length=256
 wf:∀ r∈R,r.Wf
 pl:∀ i,i < itn p→plOk (R.getD i zref)=true
 dg:∀ i,i < itn p→digestOf (blkOf B (blkI R i))=(R.getD i zref).dg
 pg:∀ i,i < itn p→sealL key (R.getD i zref).ep (blkI R i:Nat) (blkOf B (blkI R i))=pageI P R i
 b:B.length=(2+2*itn p)*256
section
variable {B B' key:Lb8} {p:Nat} {R:List RefV} {P:List (Lb8)}
theorem ImgC.plN (h:ImgC B key p R P) {i:Nat} (hi:i < itn p):((R.getD i zref).pl.toNat:Int)=(R.getD i zref).pl∧(R.getD i zref).pl.toNat≤1:=by
 have:=h.pl i hi
 unfold plOk at this
 have:=of_decide_eq_true this
 omega
theorem ImgC.fetch (h:ImgC B key p R P) {i:Nat} (hi:i < itn p):fetchT B key p (i:Int) (R.getD i zref)=(pageI P R i,0):=by
 obtain ⟨a,b⟩:=h.plN hi
 have e:BZ p (i:Int) (R.getD i zref).pl=((blkI R i:Nat):Int):=by
  rw [←a]
  have:=BZ_at p i (R.getD i zref).pl.toNat hi (by omega)
  rw [this]
  unfold blkI
  omega
 have hb:=h.b
 have hl:blkI R i < 2+2*itn p:=by unfold blkI;omega
 have hlb:(blkOf B (blkI R i)).length=256:=by
  unfold blkOf
  rw [List.length_take,List.length_drop]
  omega
 unfold fetchT
 rw [e,if_neg (by omega),Int.toNat_natCast,openR_good key _ _ _ hlb (by omega) (h.dg i hi),h.pg i hi]
theorem ImgC.kidL (h:ImgC B key p R P) {q:Nat} (hp:p≤q) (hq:q < itn p):(kidR p R q).length=many p q:=by
 have hn:=node_kids p q h.h0 h.h1 hp hq
 exact kidR_length _ _ _ (by rw [h.lr];omega)
theorem ImgC.kidG (_h:ImgC B key p R P) {q t:Nat} (ht:t < many p q):(kidR p R q).getD t zref=R.getD (fst p q+t) zref:=kidR_get p R q t ht
theorem ImgC.lay (h:ImgC B key p R P) {q:Nat} (hp:p≤q) (hq:q < itn p):layN (kidR p R q)=(pageI P R q,0):=by
 have hn:=node_kids p q h.h0 h.h1 hp hq
 have h6:=many_le p q
 have hl:=h.kidL hp hq
 unfold pageI
 rw [if_neg (by rw [h.lp];omega),h.lp]
 refine Prod.ext rfl ?_
 rw [layN_good (by omega) (by omega)]
 intro t ht
 rw [h.kidG (by omega)]
 exact h.pl _ (by omega)
theorem ImgC.kids (h:ImgC B key p R P) {q:Nat} (hp:p≤q) (hq:q < itn p):kidsT p (q:Int) (pageI P R q)=(kidR p R q,0):=by
 have hn:=node_kids p q h.h0 h.h1 hp hq
 have hl:=h.kidL hp hq
 unfold kidsT
 rw [KZ_node p q hp hq,if_neg (by omega),←hl]
 exact lay_parse (kidR_wf _ h.wf q) (h.lay hp hq)
theorem ImgC.refs (h:ImgC B key p R P) {k:Nat} {S:List RefV} {G:List (Lb8)} (W:TrInv B key p (R.getD (itn p - 1) zref) k S G) :
 ∀ d i,itn p≤i+d→itn p≤i+k+1→i < itn p→S.getD i zref=R.getD i zref:=by
 intro d
 induction d with
 | zero=>intro i h1 _ h3;omega
 | succ d ih=>
  intro i h1 h2 h3
  by_cases hr:i+1 < itn p
  ·have hpl:=par_lev p i h.h0 h.h1 hr
   have hq:=(kid_iff p (parN p i).1 i (parN p i).2 h.h0 h.h1 hpl.2.2.2.1 hpl.2.2.1).2 ⟨hr,rfl⟩
   have hn:=node_kids p _ h.h0 h.h1 hpl.2.2.2.1 hpl.2.2.1
   obtain ⟨q,hqq⟩:∃ q,q=(parN p i).1:=⟨_,rfl⟩
   obtain ⟨t,ht⟩:∃ t,t=(parN p i).2:=⟨_,rfl⟩
   rw [←hqq] at hpl hn
   rw [←hqq,←ht] at hq
   have hgt:i < q:=by omega
   have hRq:=ih q (by omega) (by omega) hpl.2.2.1
   obtain ⟨_,_,o⟩:=W.ok q (by omega) hpl.2.2.1
   have o2:=(o hpl.2.2.2.1).2 t hq.1
   rw [hRq,h.fetch hpl.2.2.1,h.kids hpl.2.2.2.1 hpl.2.2.1,hq.2] at o2
   rw [o2]
   show (kidR p R q).getD t zref=_
   rw [h.kidG hq.1,hq.2]
  ·have e:i=itn p - 1:=by omega
   rw [e]
   exact W.rt
theorem ImgC.ok (h:ImgC B key p R P):(wholeG B key p (R.getD (itn p - 1) zref) (itn p)).2.2=0:=by
 refine Decidable.not_not.1 fun hn=>?_
 obtain ⟨k,hk,g0,g1⟩:=whole_stop (itn p) hn
 have W:=whole_inv h.h0 h.h1 k (by omega) g0
 have hr:=h.refs W (itn p) (itn p - (k+1)) (by omega) (by omega) (by omega)
 have hw:=whole_why g0 g1
 rw [hr,h.fetch (by omega)] at hw
 rcases hw with a | ⟨a,_,b⟩
 ·exact a rfl
 ·rw [h.kids a (by omega)] at b
  exact b rfl
theorem ImgC.whole (h:ImgC B key p R P):wholeT B key p (R.getD (itn p - 1) zref)=(R,P,0):=by
 have h2:=h.ok
 have W:=whole_inv h.h0 h.h1 (itn p) (Nat.le_refl _) h2
 have hb:=itn_big p h.h0 h.h1
 unfold wholeT
 rw [if_neg (fun g=>g h2)]
 have hR:(wholeG B key p (R.getD (itn p - 1) zref) (itn p)).1=R:=by
  apply List.ext_getElem
  ·rw [W.lr,h.lr]
  ·intro i h1 h2
   have hi:i < itn p:=by rw [W.lr] at h1;exact h1
   have a:=h.refs W (itn p) i (by omega) (by omega) hi
   rw [List.getD_eq_getElem?_getD (l:=R) (i:=i),List.getElem?_eq_getElem h2,List.getD_eq_getElem?_getD,List.getElem?_eq_getElem h1] at a
   exact a
 have hG:(wholeG B key p (R.getD (itn p - 1) zref) (itn p)).2.1=P:=by
  apply List.ext_getElem
  ·rw [W.lg,h.lp]
  ·intro i h1 h2
   have hip:i < p:=by rw [W.lg] at h1;exact h1
   have a:=(W.ok i (by omega) (by omega)).2.1 hip
   rw [h.refs W (itn p) i (by omega) (by omega) (by omega),h.fetch (by omega)] at a
   have e:pageI P R i=P.getD i []:=if_pos (by rw [h.lp];exact hip)
   simp only [e] at a
   rw [List.getD_eq_getElem?_getD (l:=P) (i:=i),List.getElem?_eq_getElem h2,List.getD_eq_getElem?_getD,List.getElem?_eq_getElem h1] at a
   exact a
 exact Prod.ext hR (Prod.ext hG h2)
theorem ImgC.move (h:ImgC B key p R P) (hb:B'.length=B.length) (hk:∀ i,i < itn p→blkOf B' (blkI R i)=blkOf B (blkI R i)):ImgC B' key p R P:=
 ⟨h.h0,h.h1,h.lr,h.lp,h.len,h.wf,h.pl,fun i hi=>by rw [hk i hi];exact h.dg i hi,fun i hi=>by rw [hk i hi];exact h.pg i hi,by rw [hb];exact h.b⟩
end
theorem img_made {B key:Lb8} {ep:BitVec 32} {P:List (Lb8)} (hP:GoodP P) (hB:B.length=(2+2*itn P.length)*256) (hK:Blks key ep P B):ImgC B key P.length (refsT key ep P (itn P.length)) P:=by
 have hg:∀ i,i < itn P.length→(refsT key ep P (itn P.length)).getD i zref=refT key ep P i:=fun i hi=>refsT_get key ep P _ i hi
 have hbk:∀ i,i < itn P.length→blkI (refsT key ep P (itn P.length)) i=2+2*i:=fun i hi=>by
  unfold blkI
  rw [hg i hi,refT_pl]
  rfl
 refine ⟨hP.p0,hP.p1,refsT_length _ _ _ _,rfl,hP.len,refsT_wf _,fun i hi=>?_,fun i hi=>?_,fun i hi=>?_,hB⟩
 ·rw [hg i hi]
  unfold plOk
  rw [refT_pl]
  rfl
 ·rw [hg i hi,hbk i hi,hK i hi,(hid_ok hP i hi).2.2]
 ·rw [hg i hi,hbk i hi,hK i hi,(hid_ok hP i hi).2.2]
  show sealL key ep _ _=_
  rw [(hid_ok hP i hi).2.1,show ((2+2*i:Nat):Int)=2+2*(i:Int) by omega,sealL_back]
  unfold pgT pageI
  by_cases h:i < P.length
  ·rw [if_pos h,if_pos h]
  ·rw [if_neg h,if_neg h,node_refs hP i i (by omega) hi (Nat.le_refl _),node_refs hP i _ (by omega) hi (by omega)]
def ndsI (p:Nat) (R:List RefV) (n:Nat):List NdV:=(List.range (n - p)).map fun k=>(((p+k:Nat):Int),kidR p R (p+k))
theorem ndsI_find (p:Nat) (R:List RefV) {n q:Nat} (hp:p≤q) (hq:q < n):findD (ndsI p R n) (q:Int)=kidR p R q:=by
 have hl:(ndsI p R n).length=n - p:=by simp [ndsI]
 have hg:∀ i,i < n - p→(ndsI p R n).getD i znd=(((p+i:Nat):Int),kidR p R (p+i)):=fun i hi=>by
  simp [ndsI,List.getD_eq_getElem?_getD,hi]
 unfold findD
 have hf:findT (ndsI p R n) (q:Int)=some (kidR p R q):=by
  unfold findT
  have e:(ndsI p R n).find? (fun x=>x.1 == (q:Int))=some ((q:Int),kidR p R q):=by
   rw [List.find?_eq_some_iff_getElem]
   refine ⟨by simp,q - p,by omega,?_,fun j hj=>?_⟩
   ·have:=hg (q - p) (by omega)
    rw [List.getD_eq_getElem?_getD,List.getElem?_eq_getElem (by omega)] at this
    rw [show p+(q - p)=q by omega] at this
    exact this
   ·have:=hg j (by omega)
    rw [List.getD_eq_getElem?_getD,List.getElem?_eq_getElem (by omega)] at this
    have this:(ndsI p R n)[j]=_:=this
    rw [this]
    simp
    omega
  rw [e];rfl
 rw [hf];rfl
theorem ndsI_wf {p:Nat} {R:List RefV} {n:Nat} (h:∀ r∈R,r.Wf):∀ x∈ndsI p R n,∀ r∈x.2,r.Wf:=by
 intro x hx
 obtain ⟨k,_,rfl⟩:=List.mem_map.1 hx
 exact kidR_wf p h (p+k)
theorem img_good {B key:Lb8} {p:Nat} {R:List RefV} {P:List (Lb8)} (h:ImgC B key p R P) {C:List ChV} (hc:riseT p C):GoodC p (R.getD (itn p - 1) zref) (ndsI p R (itn p)) C:=by
 have hb:=itn_big p h.h0 h.h1
 refine ⟨h.h0,h.h1,(may_iff p _ C).2 ⟨hc,fun i hi hn=>?_⟩,h.pl _ (by omega),ndsI_wf h.wf,getD_wf h.wf _⟩
 have hp:=((isN_iff p _ i).1 hn).1
 have hk:=node_kids p i h.h0 h.h1 hp hi
 rw [ndsI_find p R hp hi]
 refine ⟨h.kidL hp hi,fun r hr=>?_⟩
 obtain ⟨t,ht,rfl⟩:=List.mem_iff_getElem.1 hr
 have hl:=h.kidL hp hi
 have e:=h.kidG (q:=i) (t:=t) (by omega)
 rw [List.getD_eq_getElem?_getD,List.getElem?_eq_getElem ht] at e
 have e:(kidR p R i)[t]=_:=e
 rw [e]
 exact h.pl _ (by omega)
section
variable {B B' key:Lb8} {ep:BitVec 32} {p:Nat} {R:List RefV} {P:List (Lb8)} {C:List ChV}
def newR (key:Lb8) (ep:BitVec 32) (p:Nat) (R:List RefV) (C:List ChV):List RefV:=(List.range (itn p)).map fun i=>(frC key ep p (R.getD (itn p - 1) zref) (ndsI p R (itn p)) C i).getD (R.getD i zref)
def newP (p:Nat) (P:List (Lb8)) (C:List ChV):List (Lb8):=(List.range p).map fun i=>(chgP C i).getD (P.getD i [])
theorem newR_length:(newR key ep p R C).length=itn p:=by simp [newR]
theorem newR_get {i:Nat} (hi:i < itn p):(newR key ep p R C).getD i zref=(frC key ep p (R.getD (itn p - 1) zref) (ndsI p R (itn p)) C i).getD (R.getD i zref):=by
 simp [newR,List.getD_eq_getElem?_getD,hi]
theorem newP_length:(newP p P C).length=p:=by simp [newP]
theorem newP_get {i:Nat} (hi:i < p):(newP p P C).getD i []=(chgP C i).getD (P.getD i []):=by
 simp [newP,List.getD_eq_getElem?_getD,hi]
theorem img_old (h:ImgC B key p R P) {i:Nat} (hi:i < itn p):oldC p (R.getD (itn p - 1) zref) (ndsI p R (itn p)) i=R.getD i zref:=by
 have hb:=itn_big p h.h0 h.h1
 unfold oldC
 by_cases hr:i+1 < itn p
 ·rw [if_pos hr]
  have hpl:=par_lev p i h.h0 h.h1 hr
  have hq:=(kid_iff p (parN p i).1 i (parN p i).2 h.h0 h.h1 hpl.2.2.2.1 hpl.2.2.1).2 ⟨hr,rfl⟩
  rw [ndsI_find p R hpl.2.2.2.1 hpl.2.2.1,h.kidG hq.1,hq.2]
 ·rw [if_neg hr,show itn p - 1=i by omega]
theorem img_sel (h:ImgC B key p R P) (hc:riseT p C) {i:Nat} (hi:i < itn p) (ht:tchC p C i=true):∃ pg,pageC p (ndsI p R (itn p)) C (frL key ep p (R.getD (itn p - 1) zref) (ndsI p R (itn p)) C i) i=some pg∧pg.length=256∧blkC p (R.getD (itn p - 1) zref) (ndsI p R (itn p)) i=2+2*i+(1 - (R.getD i zref).pl.toNat) ∧
 selC key ep p (R.getD (itn p - 1) zref) (ndsI p R (itn p)) C i=some (sealL key ep (2+2*i+(1 - (R.getD i zref).pl.toNat):Nat) pg,⟨1 - (R.getD i zref).pl,ep,digestOf (sealL key ep (2+2*i+(1 - (R.getD i zref).pl.toNat):Nat) pg)⟩):=by
 have G:=img_good h hc
 obtain ⟨pg,hp,hl⟩:=page_ok (key:=key) (ep:=ep) G hi ht
 obtain ⟨a,b⟩:=h.plN hi
 have ho:oplC p (R.getD (itn p - 1) zref) (ndsI p R (itn p)) i=(R.getD i zref).pl:=by unfold oplC;rw [img_old h hi]
 have hbk:blkC p (R.getD (itn p - 1) zref) (ndsI p R (itn p)) i=2+2*i+(1 - (R.getD i zref).pl.toNat):=by
  unfold blkC
  rw [ho]
  omega
 obtain ⟨_,hs⟩:=sel_ok G ht hp hl
 rw [ho,hbk] at hs
 exact ⟨pg,hp,hl,hbk,hs⟩
theorem img_kid (h:ImgC B key p R P) (_hc:riseT p C) {q:Nat} (hp:p≤q) (hq:q < itn p) (_hn:tchC p C q=true):kidR p (newR key ep p R C) q=refsC key ep p (R.getD (itn p - 1) zref) (ndsI p R (itn p)) C q q:=by
 have hk:=node_kids p q h.h0 h.h1 hp hq
 refine refs_ext (kidR_length _ _ _ (by rw [newR_length];omega)) (refsC_length q q) fun t ht=>?_
 rw [kidR_get _ _ _ _ ht,refsC_get q q t ht,if_pos (by omega),newR_get (by omega),ndsI_find p R hp hq,h.kidG ht]
theorem img_keep (h:ImgC B key p R P) (hc:riseT p C) {q:Nat} (hp:p≤q) (hq:q < itn p) (hn:tchC p C q=false):kidR p (newR key ep p R C) q=kidR p R q:=by
 have hk:=node_kids p q h.h0 h.h1 hp hq
 refine refs_ext (kidR_length _ _ _ (by rw [newR_length];omega)) (h.kidL hp hq) fun t ht=>?_
 rw [kidR_get _ _ _ _ ht,newR_get (by omega),h.kidG ht]
 have hkid:=(kid_iff p q _ t h.h0 h.h1 hp hq).1 ⟨ht,rfl⟩
 cases e:tchC p C (fst p q+t) with
 | false=>rw [frC_none (sel_none e)];rfl
 | true=>
  have:=tch_par (img_good h hc) e hkid.1
  rw [hkid.2] at this
  unfold tchC at hn
  rw [if_neg (by omega)] at hn
  rw [this] at hn
  cases hn
theorem img_page (h:ImgC B key p R P) (hc:riseT p C) {i:Nat} (hi:i < itn p):pageI (newP p P C) (newR key ep p R C) i=if tchC p C i=true then (pageC p (ndsI p R (itn p)) C (frL key ep p (R.getD (itn p - 1) zref) (ndsI p R (itn p)) C i) i).getD [] else pageI P R i:=by
 unfold pageI
 rw [newP_length,h.lp]
 by_cases hp:i < p
 ·rw [if_pos hp,if_pos hp,newP_get hp]
  unfold pageC
  rw [if_pos hp]
  split
  ·rename_i ht
   unfold tchC at ht
   rw [if_pos hp] at ht
   obtain ⟨j,hj,e⟩:=mem_pgsC.1 (List.contains_iff_mem.1 ht)
   rw [chgP_get hc hj e]
   rfl
  ·rename_i ht
   unfold tchC at ht
   rw [if_pos hp] at ht
   have e:chgP C i=none:=by
    unfold chgP
    rw [List.find?_eq_none.2]
    ·rfl
    ·intro c hcm e
     refine ht (List.contains_iff_mem.2 ?_)
     exact List.mem_map.2 ⟨c,hcm,by simpa using e⟩
   rw [e];rfl
 ·rw [if_neg hp,if_neg hp]
  unfold pageC
  rw [if_neg hp]
  split
  ·rename_i ht
   have hn:isN p (pgsC C) i=true:=by unfold tchC at ht;rw [if_neg hp] at ht;exact ht
   rw [if_pos hn,img_kid h hc (by omega) hi ht]
   rfl
  ·rename_i ht
   rw [img_keep h hc (by omega) hi (by simpa using ht)]
theorem newR_wf (h:ImgC B key p R P):∀ r∈newR key ep p R C,r.Wf:=by
 intro r hr
 unfold newR at hr
 obtain ⟨i,_,rfl⟩:=List.mem_map.1 hr
 cases e:frC key ep p (R.getD (itn p - 1) zref) (ndsI p R (itn p)) C i with
 | none=>exact getD_wf h.wf _
 | some r=>exact fr_wf e
theorem newP_len (h:ImgC B key p R P) (hc:riseT p C):∀ x∈newP p P C,x.length=256:=by
 intro x hx
 unfold newP at hx
 obtain ⟨i,hi,rfl⟩:=List.mem_map.1 hx
 have hi:=List.mem_range.1 hi
 cases e:chgP C i with
 | none=>
  show (P.getD i []).length=256
  rw [List.getD_eq_getElem?_getD,List.getElem?_eq_getElem (by rw [h.lp];exact hi)]
  exact h.len _ (List.getElem_mem _)
 | some y=>
  unfold chgP at e
  cases g:C.find? fun c=>c.1 == (i:Int) with
  | none=>rw [g] at e;cases e
  | some c=>
   rw [g] at e
   injection e with e
   obtain ⟨j,hj,ej⟩:=List.mem_iff_getElem.1 (List.mem_of_find?_eq_some g)
   have:=(hc j hj).2.1
   rw [List.getD_eq_getElem?_getD,List.getElem?_eq_getElem hj,Option.getD_some,ej] at this
   rw [←e]
   exact this
theorem img_new (h:ImgC B key p R P) (hc:riseT p C) (hb:B'.length=B.length) (hk:∀ i,i < itn p→tchC p C i=false→blkOf B' (blkI R i)=blkOf B (blkI R i))
 (hs:∀ i s,i < itn p→selC key ep p (R.getD (itn p - 1) zref) (ndsI p R (itn p)) C i=some s→blkOf B' (blkC p (R.getD (itn p - 1) zref) (ndsI p R (itn p)) i)=s.1):ImgC B' key p (newR key ep p R C) (newP p P C):=by
 have hcase:∀ i,i < itn p→(tchC p C i=false∧(newR key ep p R C).getD i zref=R.getD i zref)∨(tchC p C i=true∧∃ pg,pageC p (ndsI p R (itn p)) C (frL key ep p (R.getD (itn p - 1) zref) (ndsI p R (itn p)) C i) i=some pg∧(newR key ep p R C).getD i zref=⟨1 - (R.getD i zref).pl,ep,digestOf (sealL key ep (2+2*i+(1 - (R.getD i zref).pl.toNat):Nat) pg)⟩∧blkI (newR key ep p R C) i=2+2*i+(1 - (R.getD i zref).pl.toNat)∧blkOf B' (blkI (newR key ep p R C) i)=sealL key ep (2+2*i+(1 - (R.getD i zref).pl.toNat):Nat) pg):=fun i hi=>by
  cases e:tchC p C i with
  | false=>exact .inl ⟨rfl,by rw [newR_get hi,frC_none (sel_none e)];rfl⟩
  | true=>
   obtain ⟨pg,hp,hl,hbk,hsel⟩:=img_sel (ep:=ep) h hc hi e
   obtain ⟨a,b⟩:=h.plN hi
   have hr:(newR key ep p R C).getD i zref=⟨1 - (R.getD i zref).pl,ep,digestOf (sealL key ep (2+2*i+(1 - (R.getD i zref).pl.toNat):Nat) pg)⟩:=by
    rw [newR_get hi,frC_some hsel];rfl
   have hbi:blkI (newR key ep p R C) i=2+2*i+(1 - (R.getD i zref).pl.toNat):=by
    unfold blkI
    rw [hr]
    show 2+2*i+(1 - (R.getD i zref).pl).toNat=_
    omega
   refine .inr ⟨rfl,pg,hp,hr,hbi,?_⟩
   rw [hbi]
   have hq:=hs i _ hi hsel
   rw [hbk] at hq
   exact hq
 refine ⟨h.h0,h.h1,newR_length,newP_length,newP_len h hc,newR_wf h,fun i hi=>?_,fun i hi=>?_,fun i hi=>?_,by rw [hb];exact h.b⟩
 ·rcases hcase i hi with ⟨_,e⟩ | ⟨_,pg,_,e,_⟩
  ·rw [e];exact h.pl i hi
  ·obtain ⟨a,b⟩:=h.plN hi
   rw [e]
   exact decide_eq_true (show 0≤1 - (R.getD i zref).pl∧1 - (R.getD i zref).pl≤1 by omega)
 ·rcases hcase i hi with ⟨t,e⟩ | ⟨_,pg,_,e,_,g⟩
  ·have eb:blkI (newR key ep p R C) i=blkI R i:=by unfold blkI;rw [e]
   rw [eb,e,hk i hi t];exact h.dg i hi
  ·rw [g,e]
 ·rw [img_page h hc hi]
  rcases hcase i hi with ⟨t,e⟩ | ⟨t,pg,hp,e,g1,g2⟩
  ·have eb:blkI (newR key ep p R C) i=blkI R i:=by unfold blkI;rw [e]
   rw [eb,e,hk i hi t,t,if_neg (by decide)];exact h.pg i hi
  ·rw [t,if_pos rfl,hp,e,g2,g1]
   exact sealL_back _ _ _ _
theorem img_root (h:ImgC B key p R P):rootC key ep p (R.getD (itn p - 1) zref) (ndsI p R (itn p)) C (itn p)=(newR key ep p R C).getD (itn p - 1) zref:=by
 have hb:=itn_big p h.h0 h.h1
 rw [newR_get (by omega)]
 unfold rootC
 rw [if_pos (Nat.le_refl _)]
theorem img_none (h:ImgC B key p R P):(newR key ep p R []).getD (itn p - 1) zref=R.getD (itn p - 1) zref:=by
 have hb:=itn_big p h.h0 h.h1
 have e:tchC p [] (itn p - 1)=false:=by
  unfold tchC
  rw [if_neg (by omega)]
  unfold isN pgsC
  simp
 rw [newR_get (by omega),frC_none (sel_none e)]
 rfl
end
theorem readTo_app (n:Nat) (d:Lb8) (l m:List (Nat × Lb8)):∀ j,j≤l.length→readTo n d (l++m) j=readTo n d l j:=by
 intro j
 induction j with
 | zero=>intro _;rfl
 | succ j ih=>
  intro hj
  have e:(l++m).getD j (0,[])=l.getD j (0,[]):=by rw [List.getD_eq_getElem?_getD,List.getD_eq_getElem?_getD,List.getElem?_append_left (by omega)]
  rw [readTo,readTo,e,ih (by omega)]
theorem read_dvw (s:St6) (k n:Nat) (x:Lb8):stRead (dvWrite s n x) k=if n=k then x else stRead s k:=by
 show readTo k (blkOf s.b k) (s.w++[(n,x)]) (s.w++[(n,x)]).length=_
 rw [List.length_append,List.length_singleton,readTo]
 have e:(s.w++[(n,x)]).getD s.w.length (0,[])=(n,x):=by rw [List.getD_eq_getElem?_getD,List.getElem?_append_right (Nat.le_refl _),Nat.sub_self];rfl
 rw [e,readTo_app _ _ _ _ _ (Nat.le_refl _)]
 rfl
section
variable {key:Lb8} {ep:BitVec 32} {p:Nat} {root:RefV} {N:List NdV} {C:List ChV} {s:St6}
theorem lay_put {n:Nat}:layS s (putsC key ep p root N C (n+1))=match selC key ep p root N C n with | none=>layS s (putsC key ep p root N C n) | some x=>dvWrite (layS s (putsC key ep p root N C n)) (blkC p root N n) x.1:=by
 cases e:selC key ep p root N C n with
 | none=>rw [putsC_none e]
 | some x=>rw [putsC_some e,layS_snoc]
theorem lay_other (b:Nat):∀ n,(∀ i,i < n→tchC p C i=true→blkC p root N i≠b)→stRead (layS s (putsC key ep p root N C n)) b=stRead s b:=by
 intro n
 induction n with
 | zero=>intro _;show stRead (layS s []) b=_;rw [layS_nil]
 | succ n ih=>
  intro h
  have ih:=ih fun i hi=>h i (by omega)
  rw [lay_put]
  cases e:selC key ep p root N C n with
  | none=>exact ih
  | some x=>
   show stRead (dvWrite _ _ _) b=_
   have ht:tchC p C n=true:=by
    cases t:tchC p C n with
    | true=>rfl
    | false=>rw [sel_none t] at e;cases e
   rw [read_dvw,if_neg (h n (by omega) ht),ih]
theorem lay_own {i:Nat} {x:Lb8 × RefV} (hx:selC key ep p root N C i=some x):∀ n,i < n→(∀ j,i < j→j < n→tchC p C j=true→blkC p root N j≠blkC p root N i)→stRead (layS s (putsC key ep p root N C n)) (blkC p root N i)=x.1:=by
 intro n
 induction n with
 | zero=>intro h;omega
 | succ n ih=>
  intro h hd
  rw [lay_put]
  by_cases e:i=n
  ·subst e
   rw [hx]
   show stRead (dvWrite _ _ _) _=_
   rw [read_dvw,if_pos rfl]
  ·have ih:=ih (by omega) fun j a b=>hd j a (by omega)
   cases g:selC key ep p root N C n with
   | none=>exact ih
   | some y=>
    show stRead (dvWrite _ _ _) _=_
    have ht:tchC p C n=true:=by
     cases t:tchC p C n with
     | true=>rfl
     | false=>rw [sel_none t] at g;cases g
    rw [read_dvw,if_neg (hd n (by omega) (by omega) ht),ih]
end
theorem rd_view {m:Nat} {s:St6} (h:Ok6 m s):∃ B,Rd6 s B∧B.length=s.n*256:=by
 have hl:=flushTo_length h.wf h.b s.w.length (Nat.le_refl _)
 exact ⟨flushTo s.w s.b s.w.length,⟨by rw [hl,h.b],fun n hn=>(readTo_flush h.wf h.b hn _ (Nat.le_refl _)).symm⟩,hl⟩
theorem img_lays {B key:Lb8} {ep:BitVec 32} {p m:Nat} {R:List RefV} {P:List (Lb8)} {C:List ChV} {s:St6} (h:ImgC B key p R P) (hc:riseT p C) (_hs:Ok6 m s) (hn:s.n=2+2*itn p) (hB:Rd6 s B)
 (hs2:Ok6 (m+(putsC key ep p (R.getD (itn p - 1) zref) (ndsI p R (itn p)) C (itn p)).length) (layS s (putsC key ep p (R.getD (itn p - 1) zref) (ndsI p R (itn p)) C (itn p)))) :
 ∃ B',Rd6 (layS s (putsC key ep p (R.getD (itn p - 1) zref) (ndsI p R (itn p)) C (itn p))) B'∧ImgC B' key p R P∧ImgC B' key p (newR key ep p R C) (newP p P C):=by
 obtain ⟨B',hr,hl⟩:=rd_view hs2
 have hn2:(layS s (putsC key ep p (R.getD (itn p - 1) zref) (ndsI p R (itn p)) C (itn p))).n=2+2*itn p:=hn
 have hlB:B'.length=B.length:=by rw [hl,hn2,h.b]
 have hbk:∀ i,i < itn p→tchC p C i=true→blkC p (R.getD (itn p - 1) zref) (ndsI p R (itn p)) i=2+2*i+(1 - (R.getD i zref).pl.toNat):=fun i hi ht=>by
  obtain ⟨_,_,_,e,_⟩:=img_sel (ep:=ep) h hc hi ht
  exact e
 have hold:∀ i,i < itn p→blkOf B' (blkI R i)=blkOf B (blkI R i):=fun i hi=>by
  obtain ⟨_,b⟩:=h.plN hi
  have hlt:blkI R i < 2+2*itn p:=by unfold blkI;omega
  rw [←hr.rd _ (by rw [hn2];exact hlt),←hB.rd _ (by rw [hn];exact hlt)]
  refine lay_other _ _ fun j hj ht=>?_
  rw [hbk j hj ht]
  obtain ⟨_,b2⟩:=h.plN hj
  unfold blkI
  by_cases e:j=i
  ·subst e;omega
  ·omega
 refine ⟨B',hr,h.move hlB hold,img_new h hc hlB (fun i hi _=>hold i hi) fun i x hi hx=>?_⟩
 have ht:tchC p C i=true:=by
  cases t:tchC p C i with
  | true=>rfl
  | false=>rw [sel_none t] at hx;cases hx
 have e:=hbk i hi ht
 rw [←hr.rd _ (by rw [hn2,e];omega)]
 refine lay_own hx _ hi fun j hj hj2 htj=>?_
 rw [e,hbk j hj2 htj]
 omega
end Sha
end Go.Proofs.YtlhnegbjoncieaaGreatDoor
