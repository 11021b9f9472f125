/- My own texts, merged. -/
import Derived.Test.YtddjdaocdfkgeaaGreatDoorBQ38
import Derived.Test.YtddjdaocdfkgeaaGreatDoorBQ32
import Derived.Test.YtddjdaocdfkgeaaGreatDoorBQ09
import Derived.Test.YtddjdaocdfkgeaaGreatDoorBQ13
import Derived.Test.YtddjdaocdfkgeaaGreatDoorBQ01
import Derived.Test.YtddjdaocdfkgeaaGreatDoorBQ17
import Derived.Test.YtddjdaocdfkgeaaGreatDoorBQ25
import Derived.Test.YtddjdaocdfkgeaaGreatDoorBQ14
import Derived.Test.YtddjdaocdfkgeaaGreatDoorBQ08
import Derived.Test.YtddjdaocdfkgeaaGreatDoorBQ33
import Derived.Test.YtddjdaocdfkgeaaGreatDoorBQ37
import Derived.Test.YtddjdaocdfkgeaaGreatDoorBQ22
import Derived.Test.YtddjdaocdfkgeaaGreatDoorBQ00
import Derived.Test.YtddjdaocdfkgeaaGreatDoorBQ28
import Derived.Test.YtddjdaocdfkgeaaGreatDoorBQ36
import Derived.Test.YtddjdaocdfkgeaaGreatDoorBQ30
import Derived.Laws.OwnMore
import Derived.Test.YtddjdaocdfkgeaaGreatDoorBQ20
set_option maxRecDepth 100000
set_option maxHeartbeats 4000000
namespace Go.Proofs.YtddjdaocdfkgeaaGreatDoor
namespace Sha
open Go.RowKit Mem
def putsT (key:Lb8) (ep:BitVec 32) (P:List (Lb8)):List (Nat × Lb8):=(List.range (itn P.length)).map fun i=>(2+2*i,selT key ep P i)
theorem putsT_length (key:Lb8) (ep:BitVec 32) (P:List (Lb8)):(putsT key ep P).length=itn P.length:=by simp [putsT]
theorem putsT_get (key:Lb8) (ep:BitVec 32) (P:List (Lb8)) (i:Nat) (h:i < itn P.length):(putsT key ep P).getD i (0,[])=(2+2*i,selT key ep P i):=by simp [putsT,List.getD_eq_getElem?_getD,h]
theorem makeT_ok (key:Lb8) (ep:BitVec 32) {P:List (Lb8)} (hP:GoodP P):makeT key ep P=(putsT key ep P,refT key ep P (itn P.length - 1),0):=by
 unfold makeT
 rw [if_pos ⟨hP.p0,hP.p1,by rw [List.all_eq_true];intro x hx;simp [hP.len x hx]⟩]
 rfl
def layS (s:St6) (L:List (Nat × Lb8)):St6:={ s with w:=s.w++L,t:=s.t++L.map fun q=>(q.1:Int) }
theorem layS_nil (s:St6):layS s []=s:=by
 obtain ⟨n,b,w,sh,t⟩:=s
 simp [layS]
theorem layS_snoc (s:St6) (L:List (Nat × Lb8)) (q:Nat × Lb8):layS s (L++[q])=dvWrite (layS s L) q.1 q.2:=by
 obtain ⟨n,b,w,sh,t⟩:=s
 simp [layS,dvWrite]
def stImg (key:Lb8) (ep:BitVec 32) (P:List (Lb8)):St6:=stFlush (layS (stNew (2+2*itn P.length)) (putsT key ep P))
theorem ok_lay {m:Nat} {s:St6} (h:Ok6 m s) (L:List (Nat × Lb8)) (hq:∀ q∈L,q.1 < s.n∧q.2.length=256):Ok6 (m+L.length) (layS s L):=by
 have hall:∀ j,j≤L.length→Ok6 (m+j) (layS s (L.take j)):=by
  intro j
  induction j with
  | zero=>intro _;rw [List.take_zero,layS_nil];exact h
  | succ j ih=>
   intro hj
   have e:L.take (j+1)=L.take j++[L[j]]:=by rw [List.take_add_one,List.getElem?_eq_getElem (by omega)];rfl
   have hm:=hq L[j] (List.getElem_mem _)
   rw [e,layS_snoc]
   exact ok_write (ih (by omega)) _ _ hm.1 hm.2
 have:=hall L.length (Nat.le_refl _)
 rwa [List.take_length] at this
section
variable {key:Lb8} {ep:BitVec 32} {P:List (Lb8)}
theorem puts_ok (hP:GoodP P):∀ q∈putsT key ep P,q.1 < 2+2*itn P.length∧q.2.length=256:=by
 intro q hq
 obtain ⟨i,hi,rfl⟩:=List.mem_map.1 hq
 have hi:=List.mem_range.1 hi
 exact ⟨by show 2+2*i < _;omega,selT_length hP i hi⟩
theorem img_lay_ok (hP:GoodP P):Ok6 (itn P.length) (layS (stNew (2+2*itn P.length)) (putsT key ep P)):=by
 have hb:=itn_big P.length hP.p0 hP.p1
 have h:=ok_lay (ok_new (2+2*itn P.length) (by omega) (by omega)) (putsT key ep P) (puts_ok hP)
 rw [putsT_length,Nat.zero_add] at h
 exact h
theorem img_ok (hP:GoodP P):Ok6 (itn P.length+1) (stImg key ep P):=ok_flush (img_lay_ok hP)
theorem img_b (hP:GoodP P):(stImg key ep P).b.length=(2+2*itn P.length)*256:=(img_ok hP).b
theorem img_t:(stImg key ep P).t.length=itn P.length+1:=by
 show (([]++(putsT key ep P).map fun q:Nat × Lb8=>(q.1:Int))++[-1]).length=_
 simp [putsT_length]
def Blks (key:Lb8) (ep:BitVec 32) (P:List (Lb8)) (B:Lb8):Prop:=∀ i,i < itn P.length→blkOf B (2+2*i)=selT key ep P i
theorem img_blks (hP:GoodP P):Blks key ep P (stImg key ep P).b:=by
 intro i hi
 have ho:=img_lay_ok (key:=key) (ep:=ep) hP
 have hw:(layS (stNew (2+2*itn P.length)) (putsT key ep P)).w=putsT key ep P:=by simp [layS,stNew]
 have hn:(layS (stNew (2+2*itn P.length)) (putsT key ep P)).n=2+2*itn P.length:=rfl
 have hb:=ho.b
 have hwf:=ho.wf
 rw [hn] at hb hwf
 rw [hw] at hwf
 have hf:=readTo_flush hwf hb (k:=2+2*i) (by omega) (putsT key ep P).length (Nat.le_refl _)
 show blkOf (flushTo (layS (stNew (2+2*itn P.length)) (putsT key ep P)).w _ (layS (stNew (2+2*itn P.length)) (putsT key ep P)).w.length) _=_
 rw [hw,hf]
 have hr:∀ d j,i < j→j≤itn P.length→readTo (2+2*i) d (putsT key ep P) j=selT key ep P i:=by
  intro d j
  induction j with
  | zero=>intro h;omega
  | succ j ih=>
   intro h1 h2
   rw [readTo,putsT_get key ep P j (by omega)]
   by_cases e:i=j
   ·subst e;rw [if_pos rfl]
   ·rw [if_neg (by show ¬ 2+2*j=_;omega)]
    exact ih (by omega) (by omega)
 rw [putsT_length]
 exact hr _ _ hi (Nat.le_refl _)
variable {B:Lb8}
theorem fetch_made (hP:GoodP P) (hB:B.length=(2+2*itn P.length)*256) (hK:Blks key ep P B) (i:Nat) (hi:i < itn P.length):fetchT B key P.length (i:Int) (refT key ep P i)=(pgT key ep P i,0):=by
 have e:BZ P.length (i:Int) (refT key ep P i).pl=2+2*(i:Int):=by
  rw [refT_pl]
  have:=BZ_at P.length i 0 hi (by omega)
  simpa using this
 unfold fetchT
 rw [e,if_neg (by omega),show (2+2*(i:Int)).toNat=2+2*i by omega,hK i hi]
 exact open_made hP i hi
theorem kids_made (hP:GoodP P) (i:Nat) (hp:P.length≤i) (hi:i < itn P.length):kidsT P.length (i:Int) (pgT key ep P i)=(kidR P.length (refsT key ep P i) i,0):=by
 have hn:=node_kids P.length i hP.p0 hP.p1 hp hi
 have hl:(kidR P.length (refsT key ep P i) i).length=many P.length i:=kidR_length _ _ _ (by rw [refsT_length];omega)
 have hlay:layN (kidR P.length (refsT key ep P i) i)=(pgT key ep P i,0):=by
  unfold pgT pageI
  rw [if_neg (by omega)]
  exact Prod.ext rfl (node_lay hP i i hp hi (Nat.le_refl _))
 unfold kidsT
 rw [KZ_node P.length i hp hi,if_neg (by omega),←hl]
 exact lay_parse (kidR_wf _ (refsT_wf i) i) hlay
theorem back_refs (hP:GoodP P) (hB:B.length=(2+2*itn P.length)*256) (hK:Blks key ep P B) {k:Nat} {R:List RefV} {G:List (Lb8)} (W:TrInv B key P.length (refT key ep P (itn P.length - 1)) k R G) :
 ∀ d i,itn P.length≤i+d→itn P.length≤i+k+1→i < itn P.length→R.getD i zref=refT key ep P i:=by
 intro d
 induction d with
 | zero=>intro i h1 _ h3;omega
 | succ d ih=>
  intro i h1 h2 h3
  by_cases hr:i+1 < itn P.length
  ·have hpl:=par_lev P.length i hP.p0 hP.p1 hr
   have hq:=(kid_iff P.length (parN P.length i).1 i (parN P.length i).2 hP.p0 hP.p1 hpl.2.2.2.1 hpl.2.2.1).2 ⟨hr,rfl⟩
   have hn:=node_kids P.length _ hP.p0 hP.p1 hpl.2.2.2.1 hpl.2.2.1
   obtain ⟨q,hqq⟩:∃ q,q=(parN P.length i).1:=⟨_,rfl⟩
   obtain ⟨t,ht⟩:∃ t,t=(parN P.length i).2:=⟨_,rfl⟩
   rw [←hqq] at hpl hn
   rw [←hqq,←ht] at hq
   have hgt:i < q:=by omega
   have hRq:=ih q (by omega) (by omega) hpl.2.2.1
   obtain ⟨_,_,o⟩:=W.ok q (by omega) hpl.2.2.1
   have o2:=(o hpl.2.2.2.1).2 t hq.1
   rw [hRq,fetch_made hP hB hK q hpl.2.2.1,kids_made hP q hpl.2.2.2.1 hpl.2.2.1,hq.2] at o2
   rw [o2]
   show (kidR P.length (refsT key ep P q) q).getD t zref=_
   rw [kidR_get _ _ _ _ hq.1,hq.2,refsT_get key ep P q i (by omega)]
  ·have e:i=itn P.length - 1:=by omega
   rw [e]
   exact W.rt
theorem back_ok (hP:GoodP P) (hB:B.length=(2+2*itn P.length)*256) (hK:Blks key ep P B):(wholeG B key P.length (refT key ep P (itn P.length - 1)) (itn P.length)).2.2=0:=by
 refine Decidable.not_not.1 fun h=>?_
 obtain ⟨k,hk,g0,g1⟩:=whole_stop (itn P.length) h
 have W:=whole_inv hP.p0 hP.p1 k (by omega) g0
 have hr:=back_refs hP hB hK W (itn P.length) (itn P.length - (k+1)) (by omega) (by omega) (by omega)
 have hw:=whole_why g0 g1
 rw [hr,fetch_made hP hB hK _ (by omega)] at hw
 rcases hw with a | ⟨a,_,b⟩
 ·exact a rfl
 ·rw [kids_made hP _ a (by omega)] at b
  exact b rfl
theorem backT (hP:GoodP P) (hB:B.length=(2+2*itn P.length)*256) (hK:Blks key ep P B):wholeT B key P.length (refT key ep P (itn P.length - 1))=(refsT key ep P (itn P.length),P,0):=by
 have h:=back_ok hP hB hK
 have W:=whole_inv hP.p0 hP.p1 (itn P.length) (Nat.le_refl _) h
 have hb:=itn_big P.length hP.p0 hP.p1
 unfold wholeT
 rw [if_neg (fun g=>g h)]
 have hR:(wholeG B key P.length (refT key ep P (itn P.length - 1)) (itn P.length)).1=refsT key ep P (itn P.length):=by
  apply List.ext_getElem
  ·rw [W.lr,refsT_length]
  ·intro i h1 h2
   have hi:i < itn P.length:=by rw [W.lr] at h1;exact h1
   have a:=back_refs hP hB hK W (itn P.length) i (by omega) (by omega) hi
   rw [←refsT_get key ep P (itn P.length) i hi,List.getD_eq_getElem?_getD,List.getD_eq_getElem?_getD,List.getElem?_eq_getElem h1,List.getElem?_eq_getElem h2] at a
   exact a
 have hG:(wholeG B key P.length (refT key ep P (itn P.length - 1)) (itn P.length)).2.1=P:=by
  apply List.ext_getElem
  ·rw [W.lg]
  ·intro i h1 h2
   have a:=(W.ok i (by omega) (by omega)).2.1 h2
   rw [back_refs hP hB hK W (itn P.length) i (by omega) (by omega) (by omega),fetch_made hP hB hK i (by omega)] at a
   have e:pgT key ep P i=P.getD i []:=if_pos h2
   simp only [e] at a
   rw [List.getD_eq_getElem?_getD,List.getD_eq_getElem?_getD,List.getElem?_eq_getElem h1,List.getElem?_eq_getElem h2] at a
   exact a
 exact Prod.ext hR (Prod.ext hG h)
theorem backW (hP:GoodP P) (hB:B.length=(2+2*itn P.length)*256) (hK:Blks key ep P B) (x:Nat) (hx:x < P.length):wayT B key P.length (refT key ep P (itn P.length - 1)) (x:Int)=((List.range (topn P.length+1)).map (fun t=>refT key ep P (itp P.length x t)),P.getD x [],0):=by
 have h:=back_ok hP hB hK
 have W:=whole_inv hP.p0 hP.p1 (itn P.length) (Nat.le_refl _) h
 rw [whole_way hP.p0 hP.p1 W x hx]
 have hG:(wholeG B key P.length (refT key ep P (itn P.length - 1)) (itn P.length)).2.1=P:=by
  have:=backT hP hB hK
  unfold wholeT at this
  rw [if_neg (fun g=>g h)] at this
  rw [this]
 rw [hG]
 congr 1
 apply List.map_congr_left
 intro t ht
 have ht:=List.mem_range.1 ht
 have hl:=itp_lev P.length x hP.p0 hP.p1 hx t (by omega)
 have hs:=stn_mono P.length (t+1) (topn P.length+1) (by omega) (by have:=top_le P.length;omega)
 exact back_refs hP hB hK W (itn P.length) _ (by unfold itn;omega) (by unfold itn;omega) (by unfold itn;omega)
end
end Sha
end Go.Proofs.YtddjdaocdfkgeaaGreatDoor
namespace Go.Proofs.YtddjdaocdfkgeaaGreatDoor
namespace Sha
open Go.RowKit Mem
def TT (w:World):Prop:=Tabs w∧CTabs w
theorem TT.below {w w':World} (h:TT w) (hb:Below w.heap.size w w'):TT w':=⟨h.1.below hb (Nat.le_refl _),h.2.below hb (Nat.le_refl _)⟩
def MkEnd (w:World) (t:List (Nat × Lb8) × RefV × Int) (e:Ending) (w':World):Prop:=∃ v,e=.returned (.tuple #[v,.agg (refC t.2.1),.int .i64 t.2.2])∧WPut (fun k=>w.heap.size≤k) w' v t.1∧Below w.heap.size w w'
def WyEnd (w:World) (t:List RefV × Lb8 × Int) (e:Ending) (w':World):Prop:=∃ vr vp,e=.returned (.tuple #[vr,vp,.int .i64 t.2.2])∧SlRf w' vr t.1∧Sl w' vp t.2.1∧Below w.heap.size w w'
def WhEnd (w:World) (t:List RefV × List (Lb8) × Int) (e:Ending) (w':World):Prop:=∃ vr vp,e=.returned (.tuple #[vr,vp,.int .i64 t.2.2])∧SlRf w' vr t.1∧Sls w' vp t.2.1∧Below w.heap.size w w'
structure TreeP:Prop where
 make:∀ key ep P v w,TT w→key.length=32→Sls w v P→P.length≤1000→(∀ x∈P,x.length≤1000)→Calls Tryz.prog 23 #[.pointer none,.agg (u8s key).toArray,.int .u32 (V ep),v] w (MkEnd w (makeT key ep P))
 lay:∀ {F G:Foot} {b:Nat} {s:St6} (L:List (Nat × Lb8)) (v:Value) (w:World),PSt F b w s→Ok6 500 s→WPut G w v L→(∀ k,G k→¬ F k)→L.length≤400→(∀ q∈L,q.1 < s.n∧q.2.length=256)→Calls Tryz.prog 24 #[rq b,v] w fun e w'=>e=.returned (.int .i64 0)∧StEnd PSt F b w (layS s L) w'
 fetch:∀ {F:Foot} {b:Nat} {s:St6} key p (z:Int) r w,TT w→key.length=32→PSt F b w s→Ok6 1000 s→s.w=[]→1≤p→p≤216→r.Wf→Calls Tryz.prog 36 #[.pointer none,rq b,.agg (u8s key).toArray,.agg (psC p),.int .i64 z,.agg (refC r)] w (SealEnd w (fetchT s.b key p z r).1 (fetchT s.b key p z r).2)
 kids:∀ p (z:Int) pg v w,Sl w v pg→pg.length≤1000→1≤p→p≤216→Calls Tryz.prog 54 #[.agg (psC p),.int .i64 z,v] w (RfEnd w (kidsT p z pg).1 (kidsT p z pg).2)
 whole:∀ {F:Foot} {b:Nat} {s:St6} key p r w,TT w→key.length=32→PSt F b w s→Ok6 1000 s→s.w=[]→1≤p→p≤216→r.Wf→Calls Tryz.prog 13 #[.pointer none,rq b,.agg (u8s key).toArray,.agg (psC p),.agg (refC r)] w (WhEnd w (wholeT s.b key p r))
 way:∀ {F:Foot} {b:Nat} {s:St6} key p r (z:Int) w,TT w→key.length=32→PSt F b w s→Ok6 1000 s→s.w=[]→1≤p→p≤216→r.Wf→Calls Tryz.prog 15 #[.pointer none,rq b,.agg (u8s key).toArray,.agg (psC p),.agg (refC r),.int .i64 z] w (WyEnd w (wayT s.b key p r z))
end Sha
end Go.Proofs.YtddjdaocdfkgeaaGreatDoor
namespace Go.Proofs.YtddjdaocdfkgeaaGreatDoor
namespace Sha
open Go.RowKit Mem
def fkT (B key:Lb8) (p:Nat) (z:Int) (r:RefV):List RefV × Int:=if (fetchT B key p z r).2≠0 then ([],(fetchT B key p z r).2) else kidsT p z (fetchT B key p z r).1
theorem kidsT_wf (p:Nat) (z:Int) (pg:Lb8):∀ r∈(kidsT p z pg).1,r.Wf:=by
 unfold kidsT parseN
 intro r hr
 split at hr
 ·cases hr
 ·split at hr
  ·cases hr
  ·split at hr
   ·cases hr
   ·exact allN_wf pg r hr
theorem fkT_wf (B key:Lb8) (p:Nat) (z:Int) (x:RefV):∀ r∈(fkT B key p z x).1,r.Wf:=by
 unfold fkT
 intro r hr
 split at hr
 ·cases hr
 ·exact kidsT_wf _ _ _ r hr
theorem fkT_ok {B key:Lb8} {p:Nat} {z:Int} {x:RefV} (h:(fetchT B key p z x).2=0):fkT B key p z x=kidsT p z (fetchT B key p z x).1:=by
 unfold fkT;rw [if_neg (fun n=>n h)]
theorem fkT_no {B key:Lb8} {p:Nat} {z:Int} {x:RefV} (h:(fetchT B key p z x).2≠0):fkT B key p z x=([],(fetchT B key p z x).2):=by
 unfold fkT;rw [if_pos h]
theorem fkT_len {B key:Lb8} {p i:Nat} {x:RefV} (hi:p≤i) (hit:i < itn p) (h:(fkT B key p (i:Int) x).2=0):(fkT B key p (i:Int) x).1.length=many p i:=by
 unfold fkT at *
 by_cases g:(fetchT B key p (i:Int) x).2=0
 ·rw [if_neg (fun n=>n g)] at h ⊢
  exact (kids_len hi hit h).1
 ·rw [if_pos g] at h
  exact absurd h g
section
variable {R:List RefV} {f:Nat} {L:List RefV}
theorem laidR_none:laidR R f []=R:=by simp [laidR]
theorem laidR_set {t:Nat} (h:f+L.length≤R.length) (ht:t < L.length):(laidR R f (L.take t)).set (f+t) (L.getD t zref)=laidR R f (L.take (t+1)):=by
 have e1:(R.take f).length=f:=by rw [List.length_take];omega
 have e2:(L.take t).length=t:=by rw [List.length_take];omega
 have e3:(L.take (t+1)).length=t+1:=by rw [List.length_take];omega
 have hd:R.drop (f+t)=R[f+t]'(by omega)::R.drop (f+(t+1)):=by rw [List.drop_eq_getElem_cons (by omega)];rfl
 have hk:L.take (t+1)=L.take t++[L.getD t zref]:=by rw [List.take_add_one,List.getElem?_eq_getElem ht,List.getD_eq_getElem?_getD,List.getElem?_eq_getElem ht];rfl
 unfold laidR
 rw [e2,e3,List.set_append_right _ _ (by rw [List.length_append,e1,e2];exact Nat.le_refl _),List.length_append,e1,e2,Nat.sub_self,hd,hk,List.set_cons_zero]
 simp [List.append_assoc]
theorem laidR_wf (hR:∀ r∈R,r.Wf) (hL:∀ r∈L,r.Wf):∀ r∈laidR R f L,r.Wf:=by
 intro r hr
 unfold laidR at hr
 rcases List.mem_append.1 hr with h | h
 ·rcases List.mem_append.1 h with h | h
  ·exact hR r (List.mem_of_mem_take h)
  ·exact hL r h
 ·exact hR r (List.mem_of_mem_drop h)
end
section
variable {B key:Lb8} {p:Nat} {root:RefV}
theorem wholeG_node {k:Nat} (h:(wholeG B key p root k).2.2=0) (hp:p≤itn p - (k+1)):wholeG B key p root (k+1)=if (fkT B key p ((itn p - (k+1):Nat):Int) ((wholeG B key p root k).1.getD (itn p - (k+1)) zref)).2≠0 then ([],[],(fkT B key p ((itn p - (k+1):Nat):Int) ((wholeG B key p root k).1.getD (itn p - (k+1)) zref)).2) else (laidR (wholeG B key p root k).1 (fst p (itn p - (k+1))) (fkT B key p ((itn p - (k+1):Nat):Int) ((wholeG B key p root k).1.getD (itn p - (k+1)) zref)).1,(wholeG B key p root k).2.1,0):=by
 rw [wholeG,if_neg (fun n=>n h)]
 by_cases g:(fetchT B key p ((itn p - (k+1):Nat):Int) ((wholeG B key p root k).1.getD (itn p - (k+1)) zref)).2=0
 ·rw [if_neg (fun n=>n g),if_neg (by omega),fkT_ok g]
 ·rw [if_pos g,fkT_no g,if_pos g]
theorem wholeG_page {k:Nat} (h:(wholeG B key p root k).2.2=0) (hp:itn p - (k+1) < p):wholeG B key p root (k+1)=if (fetchT B key p ((itn p - (k+1):Nat):Int) ((wholeG B key p root k).1.getD (itn p - (k+1)) zref)).2≠0 then ([],[],(fetchT B key p ((itn p - (k+1):Nat):Int) ((wholeG B key p root k).1.getD (itn p - (k+1)) zref)).2) else ((wholeG B key p root k).1,(wholeG B key p root k).2.1.set (itn p - (k+1)) (fetchT B key p ((itn p - (k+1):Nat):Int) ((wholeG B key p root k).1.getD (itn p - (k+1)) zref)).1,0):=by
 rw [wholeG,if_neg (fun n=>n h),if_pos hp]
theorem wholeG_err {k:Nat} {e:Int} (h:(wholeG B key p root k).2.2=e) (he:e≠0):∀ n,k≤n→(wholeG B key p root n).2.2=e:=by
 intro n hn
 induction n with
 | zero=>rw [show 0=k by omega];exact h
 | succ n ih=>
  rcases Nat.lt_or_ge n k with g | g
  ·rw [show n+1=k by omega];exact h
  ·have i:=ih g
   rw [wholeG,if_pos (by rw [i];exact he)]
   exact i
theorem wholeT_err {k:Nat} {e:Int} (hk:k≤itn p) (h:(wholeG B key p root k).2.2=e) (he:e≠0):wholeT B key p root=([],[],e):=by
 have g:=wholeG_err h he (itn p) hk
 unfold wholeT
 rw [if_pos (by rw [g];exact he),g]
theorem wholeT_good (h:(wholeG B key p root (itn p)).2.2=0):wholeT B key p root=wholeG B key p root (itn p):=by
 unfold wholeT
 rw [if_neg (fun n=>n h)]
theorem wholeG_none:∀ k,k+p≤itn p→(wholeG B key p root k).2.2=0→(wholeG B key p root k).2.1=List.replicate p []:=by
 intro k
 induction k with
 | zero=>intro _ _;rfl
 | succ k ih=>
  intro hk h
  have h0:(wholeG B key p root k).2.2=0:=by
   rcases Classical.em ((wholeG B key p root k).2.2=0) with g | g
   ·exact g
   ·exact absurd (wholeG_err rfl g (k+1) (Nat.le_succ _)) (by rw [h];exact fun x=>g x.symm)
  have i:=ih (by omega) h0
  rw [wholeG_node h0 (by omega)] at h ⊢
  split at h
  ·exact absurd h (by assumption)
  ·rename_i g
   rw [if_neg g]
   exact i
theorem wholeG_wf (hr:root.Wf):∀ k,∀ r∈(wholeG B key p root k).1,r.Wf:=by
 intro k
 induction k with
 | zero=>
  intro r h
  rcases List.mem_append.1 h with h | h
  ·rw [List.eq_of_mem_replicate h];exact zref_wf
  ·rw [List.mem_singleton.1 h];exact hr
 | succ k ih=>
  intro r h
  rcases Classical.em ((wholeG B key p root k).2.2=0) with g | g
  ·rcases Nat.lt_or_ge (itn p - (k+1)) p with q | q
   ·rw [wholeG_page g q] at h
    split at h
    ·cases h
    ·exact ih r h
   ·rw [wholeG_node g q] at h
    split at h
    ·cases h
    ·exact laidR_wf ih (fkT_wf _ _ _ _ _) r h
  ·rw [wholeG,if_pos g] at h
   cases h
theorem wayG_step {x k:Nat} (h:(wayG B key p root x k).2=0):wayG B key p root x (k+1)=if (fkT B key p (itp p x (topn p - k):Int) ((wayG B key p root x k).1.getD 0 zref)).2≠0 then ([],(fkT B key p (itp p x (topn p - k):Int) ((wayG B key p root x k).1.getD 0 zref)).2) else ((fkT B key p (itp p x (topn p - k):Int) ((wayG B key p root x k).1.getD 0 zref)).1.getD (parN p (itp p x (topn p - (k+1)))).2 zref::(wayG B key p root x k).1,0):=by
 rw [wayG,if_neg (fun n=>n h)]
 by_cases g:(fetchT B key p (itp p x (topn p - k):Int) ((wayG B key p root x k).1.getD 0 zref)).2=0
 ·rw [if_neg (fun n=>n g),fkT_ok g]
 ·rw [if_pos g,fkT_no g,if_pos g]
theorem wayG_stop {x k:Nat} {e:Int} (h:(wayG B key p root x k).2=e) (he:e≠0):∀ n,k≤n→(wayG B key p root x n).2=e:=by
 intro n hn
 induction n with
 | zero=>rw [show 0=k by omega];exact h
 | succ n ih=>
  rcases Nat.lt_or_ge n k with g | g
  ·rw [show n+1=k by omega];exact h
  ·have i:=ih g
   rw [wayG,if_pos (by rw [i];exact he)]
   exact i
theorem wayG_wf (hr:root.Wf) (x:Nat):∀ k,∀ r∈(wayG B key p root x k).1,r.Wf:=by
 intro k
 induction k with
 | zero=>intro r h;rw [List.mem_singleton.1 h];exact hr
 | succ k ih=>
  intro r h
  rcases Classical.em ((wayG B key p root x k).2=0) with g | g
  ·rw [wayG_step g] at h
   split at h
   ·cases h
   ·rcases List.mem_cons.1 h with h | h
    ·rw [h];exact getD_wf (fkT_wf _ _ _ _ _) _
    ·exact ih r h
  ·rw [wayG,if_pos g] at h
   cases h
theorem wayG_length {x:Nat}:∀ k,(wayG B key p root x k).2=0→(wayG B key p root x k).1.length=k+1:=by
 intro k
 induction k with
 | zero=>intro _;rfl
 | succ k ih=>
  intro h
  have h0:(wayG B key p root x k).2=0:=by
   rcases Classical.em ((wayG B key p root x k).2=0) with g | g
   ·exact g
   ·exact absurd (wayG_stop rfl g (k+1) (Nat.le_succ _)) (by rw [h];exact fun x=>g x.symm)
  rw [wayG_step h0] at h ⊢
  split at h
  ·exact absurd h (by assumption)
  ·rename_i g
   rw [if_neg g,List.length_cons,ih h0]
theorem wayT_err {x k:Nat} {e:Int} (hx:x < p) (hk:k≤topn p) (h:(wayG B key p root x k).2=e) (he:e≠0):wayT B key p root (x:Int)=([],[],e):=by
 have g:=wayG_stop h he (topn p) hk
 unfold wayT
 rw [if_neg (by omega),Int.toNat_natCast,if_pos (by rw [g];exact he),g]
theorem wayT_last {x:Nat} (hx:x < p) (h:(wayG B key p root x (topn p)).2=0):wayT B key p root (x:Int)=if (fetchT B key p (x:Int) ((wayG B key p root x (topn p)).1.getD 0 zref)).2≠0 then ([],[],(fetchT B key p (x:Int) ((wayG B key p root x (topn p)).1.getD 0 zref)).2) else ((wayG B key p root x (topn p)).1,(fetchT B key p (x:Int) ((wayG B key p root x (topn p)).1.getD 0 zref)).1,0):=by
 unfold wayT
 rw [if_neg (by omega),Int.toNat_natCast,if_neg (fun n=>n h)]
def wayL (B key:Lb8) (p:Nat) (root:RefV) (x k:Nat):List RefV:=List.replicate (topn p - k) zref++(wayG B key p root x k).1
theorem wayL_zero {x:Nat}:(List.replicate (topn p+1) zref).set (topn p) root=wayL B key p root x 0:=by
 unfold wayL
 show _=List.replicate (topn p) zref++[root]
 rw [List.replicate_succ',List.set_append_right _ _ (by simp)]
 simp
theorem wayL_length {x k:Nat} (hk:k≤topn p) (h:(wayG B key p root x k).2=0):(wayL B key p root x k).length=topn p+1:=by
 unfold wayL
 rw [List.length_append,List.length_replicate,wayG_length k h]
 omega
theorem wayL_head {x k:Nat}:(wayL B key p root x k).getD (topn p - k) zref=(wayG B key p root x k).1.getD 0 zref:=by
 unfold wayL
 rw [List.getD_eq_getElem?_getD,List.getElem?_append_right (by simp),List.length_replicate,Nat.sub_self,List.getD_eq_getElem?_getD]
theorem wayL_set {x k:Nat} (hk:k < topn p) (h:(wayG B key p root x k).2=0) (h2:(fkT B key p (itp p x (topn p - k):Int) ((wayG B key p root x k).1.getD 0 zref)).2=0):(wayL B key p root x k).set (topn p - (k+1)) ((fkT B key p (itp p x (topn p - k):Int) ((wayG B key p root x k).1.getD 0 zref)).1.getD (parN p (itp p x (topn p - (k+1)))).2 zref)=wayL B key p root x (k+1):=by
 have e:=wayG_step h
 rw [if_neg (fun n=>n h2)] at e
 unfold wayL
 rw [e]
 show _=List.replicate (topn p - (k+1)) zref++(_::_)
 rw [show topn p - k=(topn p - (k+1))+1 by omega,List.replicate_succ',List.append_assoc,List.set_append_right _ _ (by simp)]
 simp
theorem wayL_wf (hr:root.Wf) (x k:Nat):∀ r∈wayL B key p root x k,r.Wf:=by
 intro r h
 rcases List.mem_append.1 h with h | h
 ·rw [List.eq_of_mem_replicate h];exact zref_wf
 ·exact wayG_wf hr x k r h
theorem wayL_last {x:Nat}:wayL B key p root x (topn p)=(wayG B key p root x (topn p)).1:=by
 unfold wayL
 rw [Nat.sub_self]
 rfl
end
end Sha
end Go.Proofs.YtddjdaocdfkgeaaGreatDoor
namespace Go.Proofs.YtddjdaocdfkgeaaGreatDoor
namespace Sha
open Go.RowKit Mem
set_option maxRecDepth 100000
theorem pages_any (ts:List (Lb8)) (v:Value) (w:World) (hv:Sls w v ts) (hn:ts.length≤1000):Calls Tryz.prog 7 #[v] w fun e w'=>∃ v',e=.returned v'∧Sls w' v' (ts.map pageL)∧Below w.heap.size w w':=by
 obtain ⟨i8,hi8,hz8,hs8,hb8⟩:=info_parts infoU8
 have hv0:=hv
 obtain ⟨asx,caps,rfl,_,_⟩:=hv0
 obtain ⟨n,hnn⟩:∃ n,n=ts.length:=⟨_,rfl⟩
 rw [←hnn] at hv hn ⊢
 have HS:=zh hv;have HN:=zh hnn
 have I8:=zh hi8;have Z8:=zh hz8;have S8:=zh hs8;have B8':=zh hb8
 clear hv hnn hi8 hz8 hs8 hb8
 go_enter Tryz.func7,Tryz.ntmps7
 go_wp2_with fail
 go_loopw [3,9] (fun v i wr=>∃ j:Nat,j≤n∧i=.int .i64 j∧∃ v' D hs,v'=v∧Each2 (fun p q=>SlB D wr p q) hs ((ts.map pageL).take j)∧wr.ownsRow w.heap.size 40 1 v' j hs∧(∀ k,D k→k < wr.heap.size∧v'.ownBlock≠some k)∧Below w.heap.size w wr) (fun _ i _=>n - (intOf i).toNat)
 case atStart=>exact ⟨0,by omega,rfl,_,fun _=>False,[],rfl,trivial,ownsRow_nil0 _ _ _ _,fun k hk=>hk.elim,Below.refl _ _⟩
 case round=>
  obtain ⟨j,hj,rfl,v,D,hs,rfl,he,hown,hd,hb⟩:=hrel
  by_cases hlt:j < n
  ·have hlt':(j:Int) < (n:Int):=by omega
   have hps:j < ts.length:=by rw [←HN.out];exact hlt
   obtain ⟨pb,po,vi,rfl,hpb,hcell,hsl⟩:=sls_at (HS.out.below hb) hps
   have htk:(ts.map pageL).take (j+1)=(ts.map pageL).take j++[pageL (ts.getD j [])]:=by
    rw [List.take_add_one,List.getElem?_map,List.getElem?_eq_getElem hps,List.getD_eq_getElem?_getD,List.getElem?_eq_getElem hps];rfl
   have htl:((ts.map pageL).take j).length=j:=by rw [List.length_take,List.length_map];omega
   obtain ⟨p,hp⟩:∃ p,p=ts.getD j []:=⟨_,rfl⟩
   rw [←hp] at hsl htk
   obtain ⟨a1,c1,rfl⟩:=sl_inv hsl
   obtain ⟨k,hk⟩:∃ k,k=Nat.min p.length 256:=⟨_,rfl⟩
   have hsp:=splice_page p k hk
   have hk256:k≤256:=by rw [hk];exact Nat.min_le_right _ _
   have pl:=pageL_length p
   obtain ⟨M,hM⟩:∃ M,M=(u8s (pageL p)).toArray:=⟨_,rfl⟩
   rw [←hM] at hsp
   obtain ⟨av,cv,rfl⟩:=rows_hd hown
   have OW:=zh hown;have HE:=zh he;have HD:=zh hd;have BB:=zh hb;have TK:=zh htk;have TL:=zh htl;have SL:=zh hsl;have SP:=zh hsp;have HK:=zh hk;have HM:=zh hM;have PL:=zh pl
   clear hown he hd hb htk htl hsl hps hp hpb hsp hk hM pl
   go_upto_region 6 with (refine wpList_make_full _ zr _ _ 40 zr wr.heap.size 5 i8 (.int .u8 0) 1 Tryz.underlying40 I8.out Z8.out S8.out .i64 .i64 256 256 256 zr zr rfl rfl (by rw [B8'.out];omega) (by simp [maxLen]) (Nat.le_refl _) ?_;intro w4 ho4 hg4;have R4:Hid (At w4 wr.heap.size (u8s (List.replicate 256 0)).toArray 5):=zh (by have h:=own_full ho4;rw [made_zeros] at h;exact h);have B4:Hid (Below wr.heap.size wr w4):=zh ((Below.refl _ _).grown hg4 (Nat.le_refl _) (fun _ h=>by cases h));clear ho4 hg4)
   clear hcell
   obtain ⟨g,hg⟩:∃ g,g=wr.heap.size:=⟨_,rfl⟩
   have HG:=zh hg
   have SL4:=zh (SL.out.below B4.out)
   rw [←hg] at R4 ⊢
   clear hg
   go_upto_region 7 with (refine wpList_copy_sl zr _ _ zr g 0 256 256 (.slice a1 p.length c1) p zr zr SL4.out k HK.out _ _ R4.out (by simp [u8s];omega) _ SP.out ?_;intro w5 ha5 hs5 ho5 hbb5;have R5:=zh ha5;have B5:=zh (hbb5 _ _ B4.out (by rw [HG.out];exact Nat.le_refl _));clear ha5 hs5 ho5 hbb5)
   have O5:Hid (OwnB w5 wr.heap.size (.slice (some ⟨g,0,none⟩) 256 256) (pageL p)):=zh (by
    have h:=own_fulls (L:=pageL p) (by rw [←HM.out];exact R5.out) (by rw [HG.out];exact Nat.le_refl _) (by rw [PL.out];decide)
    rw [PL.out] at h
    exact h)
   have L3:Hid (Below w5.heap.size w5 (w5.alloc (.cells #[.slice (some ⟨g,0,none⟩) 256 256] 40))):=zh ((Below.refl _ _).alloc (Nat.le_refl _) _)
   have OW3:=zh (ownsRow_below (ownsRow_below OW.out B5.out) L3.out)
   have B3:Hid (Below w.heap.size w (w5.alloc (.cells #[.slice (some ⟨g,0,none⟩) 256 256] 40))):=zh ((BB.out.trans (B5.out.mono BB.out.size)).trans (L3.out.mono (Nat.le_trans BB.out.size B5.out.size)))
   clear R4 R5 B4 SL4
   go_wp2_with (first
    | (at_builtin;go_loud (refine wpList_append_app zr _ _ 22 zr (.slice (some ⟨w5.heap.size,0,none⟩) 1 1) j 1 1 [.slice (some ⟨g,0,none⟩) 256 256] (.slice none 0 0) 24 elemRS9 zr (by decide) zr OW3.out zr (rdR_new (w:=w5) (e:=40) (C:=#[.slice (some ⟨g,0,none⟩) 256 256])) (by simp [Value.oneCell']) (by omega) (by omega) B3.out.size ?_);intro v6 w6 ho6 ha6 hb6;have O6:=zh ho6;have A6:=zh ha6;have B6:=zh (B3.out.trans hb6);clear ho6 ha6 hb6))
   obtain ⟨D',e5,d5⟩:=txt_add HE.out (by rw [TL.out];exact OW.out) HD.out B5.out O5.out L3.out A6.out
   have E5:=zh e5;have D5:=zh d5
   clear e5 d5
   go_roundw
   case rel=>exact ⟨j+1,by omega,by go_num,v6,D',_,rfl,by rw [TK.out];exact E5.out,O6.out,D5.out,B6.out⟩
   case measure=>simp [intOf];omega
  ·have hj2:j=n:=by omega
   have hge:¬ (j:Int) < (n:Int):=by omega
   have hml:(ts.map pageL).length=n:=by rw [List.length_map];exact HN.out.symm
   have htk:(ts.map pageL).take j=ts.map pageL:=List.take_of_length_le (by omega)
   rw [htk] at he
   have SF:=zh (own_sls he (by rw [hml,←hj2];exact hown))
   have BF:=zh hb
   clear he hown hd hb htk hml
   go_wp2_with fail
   go_ret
   exact ⟨_,rfl,SF.out,BF.out⟩
def farP (P:List (Lb8)):Bool:=decide (14 < P.length∧P.length≤216∨300 < P.length) || P.any fun p=>decide (600 < p.length)
theorem far14_any (ts:List (Lb8)) (v:Value) (w:World) (hv:Sls w v ts):Calls Tryz.prog 4 #[v] w (fun e w'=>e=.returned (.bool (farP ts))∧w'=w):=by
 have hv0:=hv
 obtain ⟨asx,caps,rfl,_,_⟩:=hv0
 by_cases hbig:14 < ts.length∧ts.length≤216∨300 < ts.length
 ·have hy:farP ts=true:=by unfold farP;rw [decide_eq_true hbig];rfl
  rw [hy]
  obtain ⟨n,hnn⟩:∃ n,n=ts.length:=⟨_,rfl⟩
  rw [←hnn] at hbig ⊢
  clear hv hy hnn
  rcases hbig with ⟨h1,h2⟩ | h1
  ·have g1:(14:Int) < (n:Int):=by omega
   have g2:(n:Int)≤216:=by omega
   go_enter Tryz.func4,Tryz.ntmps4
   go_wp2_with fail
   go_ret
   exact ⟨rfl,rfl⟩
  ·have g1:(14:Int) < (n:Int):=by omega
   have g2:¬ (n:Int)≤216:=by omega
   have g3:(300:Int) < (n:Int):=by omega
   go_enter Tryz.func4,Tryz.ntmps4
   go_wp2_with fail
   go_ret
   exact ⟨rfl,rfl⟩
 ·have hyes:∀ j,j < ts.length→600 < (ts.getD j []).length→farP ts=true:=fun j hj h=>by
   unfold farP
   rw [Bool.or_eq_true]
   right
   rw [List.any_eq_true]
   refine ⟨ts.getD j [],?_,decide_eq_true h⟩
   rw [List.getD_eq_getElem?_getD,List.getElem?_eq_getElem hj]
   exact List.getElem_mem hj
  have hno:(∀ j,j < ts.length→(ts.getD j []).length≤600)→farP ts=false:=fun h=>by
   unfold farP
   rw [Bool.or_eq_false_iff]
   refine ⟨decide_eq_false hbig,?_⟩
   rw [List.any_eq_false]
   intro p hp
   obtain ⟨j,hj,e⟩:=List.mem_iff_getElem.1 hp
   have:=h j hj
   rw [List.getD_eq_getElem?_getD,List.getElem?_eq_getElem hj,Option.getD_some,e] at this
   simpa using this
  obtain ⟨Y,hY⟩:∃ Y,Y=farP ts:=⟨_,rfl⟩
  rw [←hY] at hyes hno ⊢
  obtain ⟨n,hnn⟩:∃ n,n=ts.length:=⟨_,rfl⟩
  rw [←hnn] at hv hbig hyes hno ⊢
  have HS:=zh hv;have HN:=zh hnn;have YES:=zh hyes;have NO:=zh hno
  clear hv hnn hyes hno hY
  have hc:¬ (14:Int) < (n:Int)∨((14:Int) < (n:Int)∧¬ (n:Int)≤216):=by omega
  have g3:¬ (300:Int) < (n:Int):=by omega
  clear hbig
  rcases hc with h1 | ⟨h1,h2⟩
  all_goals (
   go_enter Tryz.func4,Tryz.ntmps4
   go_upto_region 4 with fail
   go_loopw [20] (fun vi wr=>∃ j:Nat,j≤n∧vi=.int .i64 (j:Int)∧(∀ k,k < j→(ts.getD k []).length≤600)∧wr=w) (fun vi _=>n - (intOf vi).toNat)
   case atStart=>exact ⟨0,by omega,rfl,fun k hk=>by omega,rfl⟩
   case round=>
    obtain ⟨j,hj,rfl,hal,rfl⟩:=hrel
    by_cases hlt:j < n
    ·have hlt':(j:Int) < (n:Int):=by omega
     have hps:j < ts.length:=by rw [←HN.out];exact hlt
     obtain ⟨pb,po,vi,rfl,hpb,hcell,hsl⟩:=sls_at HS.out hps
     have hy:=YES.out j hlt
     have hal2:(ts.getD j []).length≤600→∀ k,k < j+1→(ts.getD k []).length≤600:=fun h k hk=>by
      rcases Nat.lt_or_ge k j with x | x
      ·exact hal k x
      ·rw [show k=j by omega];exact h
     obtain ⟨a1,c1,rfl⟩:=sl_inv hsl
     obtain ⟨m,hm⟩:∃ m,m=(ts.getD j []).length:=⟨_,rfl⟩
     rw [←hm] at hcell hy hal2
     have HY:=zh hy;have AL2:=zh hal2
     clear hy hal2 hal hsl hm hps
     by_cases hbg:600 < m
     ·have hb2:(600:Int) < (m:Int):=by omega
      have HY2:=zh (HY.out hbg)
      go_wp2_with fail
      go_ret
      exact ⟨by rw [HY2.out];rfl,rfl⟩
     ·have hb2:¬ (600:Int) < (m:Int):=by omega
      have AL3:=zh (AL2.out (by omega))
      go_wp2_with fail
      go_roundw
      case rel=>exact ⟨j+1,by omega,by go_num,AL3.out,by first | rfl | trivial⟩
      case measure=>simp [intOf];omega
    ·have hin:j=n:=by omega
     subst hin
     have HY:=zh (NO.out hal)
     have hge:¬ (j:Int) < (j:Int):=by omega
     go_wp2_with fail
     go_ret
     exact ⟨by rw [HY.out];rfl,rfl⟩)
theorem sameL_iff (L K:List (Lb8)):(L.length=K.length∧∀ i,i < L.length→L.getD i []=K.getD i []) ↔ L=K:=by
 constructor
 ·rintro ⟨h,h2⟩
  apply List.ext_getElem h
  intro i h1 h3
  have:=h2 i h1
  simpa [List.getD_eq_getElem?_getD,h1,h3] using this
 ·rintro rfl
  exact ⟨rfl,fun _ _=>rfl⟩
theorem like_any (L K:List (Lb8)) (va vb:Value) (w:World) (ha:Sls w va L) (hb:Sls w vb K) (hl:L.length≤1000) (hL:∀ x∈L,x.length≤1000000) (hK:∀ x∈K,x.length≤1000000) :
 Calls Tryz.prog 18 #[va,vb] w (fun e w'=>e=.returned (.bool (decide (L=K)))∧Below w.heap.size w w'):=by
 have ha0:=ha
 have hb0:=hb
 obtain ⟨aa,ca,rfl,_,_⟩:=ha0
 obtain ⟨ab,cb,rfl,_,_⟩:=hb0
 by_cases hlen:L.length=K.length
 ·have hno:∀ i,i < L.length→sameB (L.getD i []) (K.getD i [])=false→decide (L=K)=false:=fun i hi h=>by
   refine decide_eq_false (fun e=>?_)
   rw [e] at h
   simp [sameB] at h
  have hyes:(∀ i,i < L.length→sameB (L.getD i []) (K.getD i [])=true)→decide (L=K)=true:=fun h=>by
   refine decide_eq_true ((sameL_iff L K).1 ⟨hlen,fun i hi=>?_⟩)
   simpa [sameB] using h i hi
  have hbl:∀ (M:List (Lb8)),(∀ x∈M,x.length≤1000000)→∀ i,(M.getD i []).length≤1000000:=fun M h i=>by
   rw [List.getD_eq_getElem?_getD]
   by_cases hi:i < M.length
   ·rw [List.getElem?_eq_getElem hi];exact h _ (List.getElem_mem hi)
   ·rw [List.getElem?_eq_none (by omega)];simp
  have hlL:=hbl L hL;have hlK:=hbl K hK
  rw [←hlen] at hb ⊢
  obtain ⟨Y,hY⟩:∃ Y,Y=decide (L=K):=⟨_,rfl⟩
  rw [←hY] at hno hyes ⊢
  obtain ⟨n,hn⟩:∃ n,n=L.length:=⟨_,rfl⟩
  have hnk:n=K.length:=by omega
  rw [←hn] at ha hb hno hyes hl ⊢
  have HA:=zh ha;have HB:=zh hb;have NO:=zh hno;have YES:=zh hyes;have HN:=zh hn;have HNK:=zh hnk;have LL:=zh hlL;have LK:=zh hlK
  clear ha hb hno hyes hn hnk hY hlen hL hK hbl hlL hlK
  go_enter Tryz.func18,Tryz.ntmps18
  go_wp2_with fail
  go_loopw [13] (fun vi wr=>∃ i:Nat,i≤n∧vi=.int .i64 (i:Int)∧(∀ k,k < i→sameB (L.getD k []) (K.getD k [])=true)∧Below w.heap.size w wr) (fun vi _=>n - (intOf vi).toNat)
  case atStart=>exact ⟨0,by omega,rfl,fun k _hk=>by omega,Below.refl _ _⟩
  case round=>
   obtain ⟨i,hi,rfl,hal,hbw⟩:=hrel
   have BW:=zh hbw;have AL:=zh hal;have VA:=zh (HA.out.below hbw);have VB:=zh (HB.out.below hbw)
   clear hbw hal
   by_cases hlt:i < n
   ·have hlt2:(i:Int) < (n:Int):=by omega
    obtain ⟨b1,o1,v1,e1,l1,c1,s1⟩:=sls_at VA.out (i:=i) (by rw [←HN.out];exact hlt)
    obtain ⟨b2,o2,v2,e2,l2,c2,s2⟩:=sls_at VB.out (i:=i) (by rw [←HNK.out];exact hlt)
    subst e1 e2
    have hsm:=fun wx (h:Below wr.heap.size wr wx)=>same_any (L.getD i []) (K.getD i []) v1 v2 wx (s1.below h) (s2.below h) (by have:=LL.out i;omega) (by have:=LK.out i;omega)
    have hno:=NO.out i hlt
    obtain ⟨q,hq⟩:∃ q,q=sameB (L.getD i []) (K.getD i []):=⟨_,rfl⟩
    have hal2:q=true→∀ k,k < i+1→sameB (L.getD k []) (K.getD k [])=true:=fun h k _hk=>by
     rcases Nat.lt_or_ge k i with x | x
     ·exact AL.out k x
     ·rw [show k=i by omega,←hq];exact h
    rw [←hq] at hsm hno
    have SM:=zh hsm;have NX:=zh hno;have AL2:=zh hal2;have C1:=zh c1;have C2:=zh c2;have L1:=zh l1;have L2:=zh l2
    clear hsm hno hal2 c1 c2 l1 l2 s1 s2 hq
    go_upto_region 6 with fail
    have D0:Hid (Below wr.heap.size wr wr.drew):=zh (Below.refl _ _).drew
    refine wp_region_plan_in (fun x'=>Below wr.heap.size wr x') (.take 0 (.take 1 (.take 2 (.take 3 (.take 4 (.take 5 (.take 6 (.take 7 (.sole 8 (.take 9 .done)))))))))) (by kernel_rfl) (by kernel_rfl) (by kernel_rfl) D0.out ?_
    iterate 2 ((first | refine Mem.pm1 ?_ | refine Mem.pm2 ?_ | refine Mem.pt ?_ | refine Mem.pf ?_);(simp only [Mem.zp,Mem.pb,Mem.pc]))
    refine plan_index 22 40 _ _ b1 o1 n ca i zr zr zr ze ze (by omega) Tryz.underlying22 (by kernel_rfl) ?_
    (simp only [Mem.zp,Mem.pb,Mem.pc])
    refine plan_cell 40 _ _ v1 _ zr zr zr ze (fun w' hw'=>(hw'.cell (p:=⟨b1,o1+i,none⟩) L1.out).trans C1.out) Tryz.underlying40 zr ?_
    (simp only [Mem.zp,Mem.pb,Mem.pc])
    iterate 2 ((first | refine Mem.pm1 ?_ | refine Mem.pm2 ?_ | refine Mem.pt ?_ | refine Mem.pf ?_);(simp only [Mem.zp,Mem.pb,Mem.pc]))
    refine plan_index 22 40 _ _ b2 o2 n cb i zr zr zr ze ze (by omega) Tryz.underlying22 (by kernel_rfl) ?_
    (simp only [Mem.zp,Mem.pb,Mem.pc])
    refine plan_cell 40 _ _ v2 _ zr zr zr ze (fun w' hw'=>(hw'.cell (p:=⟨b2,o2+i,none⟩) L2.out).trans C2.out) Tryz.underlying40 zr ?_
    (simp only [Mem.zp,Mem.pb,Mem.pc])
    refine plan_call 19 _ _ _ (by kernel_rfl) zr zr zr (by first | exact Mem.ev_none _ | (simp only [List.map_toArray,List.map_cons,List.map_nil,Mem.ev_tmp,List.getD_cons_succ,List.getD_cons_zero] <;> rfl)) ?_
    refine (SM.out _ D0.out).mono ?_
    rintro e w6 ⟨rfl,hb6⟩
    have D6:Hid (Below wr.heap.size wr w6):=zh (D0.out.trans (hb6.mono D0.out.size))
    clear hb6
    refine ⟨_,rfl,D6.out,?_⟩
    (simp only [Mem.zp,Mem.pb,Mem.pc])
    refine plan_not _ _ q zr zr zr ze ?_
    (simp only [Mem.zp,Mem.pb,Mem.pc])
    refine plan_nil ?_
    have BD:Hid (Below w.heap.size w w6):=zh (BW.out.trans (D6.out.mono BW.out.size))
    cases hqq:q
    ·have HY:=zh (NX.out hqq)
     clear hqq
     go_wp2_with fail
     go_ret
     exact ⟨by rw [HY.out];rfl,BD.out⟩
    ·have AL3:=zh (AL2.out hqq)
     clear hqq
     go_wp2_with fail
     go_roundw
     case rel=>exact ⟨i+1,by omega,by go_num,AL3.out,BD.out⟩
     case measure=>simp [intOf];omega
   ·have hin:i=n:=by omega
    subst hin
    have hge:¬ (i:Int) < (i:Int):=by omega
    have HY:=zh (YES.out AL.out)
    go_wp2_with fail
    go_ret
    exact ⟨by rw [HY.out];rfl,BW.out⟩
 ·have hy:decide (L=K)=false:=decide_eq_false (fun h=>hlen (by rw [h]))
  rw [hy]
  obtain ⟨n,hn⟩:∃ n,n=L.length:=⟨_,rfl⟩
  obtain ⟨m,hm⟩:∃ m,m=K.length:=⟨_,rfl⟩
  rw [←hn,←hm] at hlen ⊢
  have e1:((n:Int) == (m:Int))=false:=beq_eq_false_iff_ne.mpr (by omega)
  have e2:¬ (n:Int)=(m:Int):=by omega
  clear ha hb hy hn hm hl hL hK
  go_enter Tryz.func18,Tryz.ntmps18
  go_wp2_with fail
  go_ret
  exact ⟨rfl,Below.refl _ _⟩
theorem pst_lt {F:Foot} {b:Nat} {w:World} {s:St6} (h:PSt F b w s):∀ k,F k→k < w.heap.size:=by
 obtain ⟨D,bb,vw,vs,vt,hv⟩:=h;exact hv.lt
theorem pst_keep {F:Foot} {b:Nat} {w w':World} {s:St6} (h:PSt F b w s) (hs:w.heap.size≤w'.heap.size) (hk:∀ k,F k→k < w.heap.size→w'.heap[k]?=w.heap[k]?):PSt F b w' s:=by
 obtain ⟨D,bb,vw,vs,vt,hv⟩:=h;exact (hv.keep hs hk).ps
theorem pst_below {F:Foot} {b:Nat} {w w':World} {s:St6} (h:PSt F b w s) (hb:Below w.heap.size w w'):PSt F b w' s:=pst_keep h hb.size fun k _ hlt=>hb.block k hlt
theorem ret_four {P:Program} {fn:Func} {R:Ending→World→Prop} {tmps:Array Value} {w:World} {q p p2 u:Tmp} {ty ty2:TypeId} (h:fn.results=#[.tmp q,.cell p ty,.cell p2 ty2,.tmp u]) (g:Nat) (t:TypeId) (cs:Array Value) (d:TypeDesc) (g2:Nat) (t2:TypeId) (cs2:Array Value) (d2:TypeDesc) (v1 v:Value)
 (hq:tmps.getD q undef=v1) (hp:tmps.getD p undef=.pointer (some ⟨g,0,none⟩)) (hp2:tmps.getD p2 undef=.pointer (some ⟨g2,0,none⟩)) (hv:tmps.getD u undef=v) (hg:At w g cs t) (hu:P.underlying ty=some d) (hd:d.isRow=true) (hi:(P.info? ty).map (·.size)=some cs.size)
 (hg2:At w g2 cs2 t2) (hu2:P.underlying ty2=some d2) (hd2:d2.isRow=true) (hi2:(P.info? ty2).map (·.size)=some cs2.size)
 (hR:R (.returned (.tuple #[v1,.agg cs,.agg cs2,v])) w):bodyPost P fn R .ret ⟨tmps,[]⟩ w:=by
 refine bodyPost_ret (v:=.tuple #[v1,.agg cs,.agg cs2,v]) ?_ rfl hR
 have hrow:=run_loadVar_row (P:=P) w g t ty cs (0,0) d hg hu (by cases d <;> first | rfl | exact hd) hi
 have hrow2:=run_loadVar_row (P:=P) w g2 t2 ty2 cs2 (0,0) d2 hg2 hu2 (by cases d2 <;> first | rfl | exact hd2) hi2
 rw [Array.getD_eq_getD_getElem?] at hq hp hp2 hv
 simp only [results,h]
 simp [Result.andThen,hq,hp,hp2,hv,asAddr,hrow,hrow2]
def LdEnd (key:Lb8) (ep:BitVec 32) (P:List (Lb8)) (w:World) (e:Ending) (w':World):Prop:=
 ∃ b F,e=.returned (.tuple #[rq b,.agg (psC P.length),.agg (refC (refT key ep P (itn P.length - 1))),.bool true])∧PSt F b w' (stImg key ep P)∧(∀ k,F k→w.heap.size≤k)∧Below w.heap.size w w'
theorem laid_any (T:TreeP) (key:Lb8) (ep:BitVec 32) (P:List (Lb8)) (v:Value) (w:World) (hT:TT w) (lk:key.length=32) (hP:GoodP P) (hs:Sls w v P):Calls Tryz.prog 6 #[.pointer none,.agg (u8s key).toArray,.int .u32 (V ep),v] w (LdEnd key ep P w):=by
 have hit:=itn_big P.length hP.p0 hP.p1
 have hls:∀ x∈P,x.length≤1000:=fun x hx=>by rw [hP.len x hx];decide
 have hmk:=fun wx (h:Below w.heap.size w wx)=>T.make key ep P v wx (hT.below h) lk (hs.below h) (by have:=hP.p1;omega) hls
 rw [makeT_ok key ep hP] at hmk
 obtain ⟨root,hroot⟩:∃ r,r=refT key ep P (itn P.length - 1):=⟨_,rfl⟩
 have hrw:root.Wf:=by rw [hroot];exact refT_wf _
 have hpl:=putsT_length key ep P
 have hpo:=puts_ok (key:=key) (ep:=ep) hP
 have hlo:=img_lay_ok (key:=key) (ep:=ep) hP
 have hlw:(layS (stNew (2+2*itn P.length)) (putsT key ep P)).w.length=itn P.length:=by
  show ([]++putsT key ep P).length=_
  rw [List.nil_append,hpl]
 have himg:stFlush (layS (stNew (2+2*itn P.length)) (putsT key ep P))=stImg key ep P:=rfl
 unfold LdEnd
 rw [←hroot] at hmk ⊢
 obtain ⟨I,hI⟩:∃ I,I=stImg key ep P:=⟨_,rfl⟩
 obtain ⟨L,hL⟩:∃ L,L=putsT key ep P:=⟨_,rfl⟩
 rw [←hI] at himg ⊢
 rw [←hL] at hmk hpl hpo hlo hlw himg
 obtain ⟨asx,cap,rfl,_,_⟩:=hs
 have hp1:=hP.p1
 have hp0:=hP.p0
 obtain ⟨p,hp⟩:∃ p,p=P.length:=⟨_,rfl⟩
 rw [←hp] at hmk hit hpl hpo hlo hlw himg hp1 hp0 ⊢
 obtain ⟨m,hm⟩:∃ m,m=itn p:=⟨_,rfl⟩
 obtain ⟨N,hN⟩:∃ N,N=2+2*m:=⟨_,rfl⟩
 rw [←hm] at hit hpl hpo hlo hlw himg
 rw [←hN] at hpo hlo hlw himg
 have hnew:=fun wx=>pnew_good p wx hp0 hp1
 have hbk:=fun wx=>pblocks_any p wx hp1
 have hbz:blksP p=(N:Int):=by unfold blksP;rw [if_neg (by omega),←hm,hN];omega
 rw [hbz] at hbk
 have hdn:=fun wx=>dvnew_good N wx (by omega) (by omega)
 have hmax:max (N:Int) 1=(N:Int):=by omega
 have n0:((N:Int) == 0)=false:=beq_eq_false_iff_ne.mpr (by omega)
 have n1:¬ (N:Int)=0:=by omega
 have rs:=refC_size hrw;have ro:=refC_one root
 have kc:(u8s key).toArray.size=32:=by simp [u8s_length,lk]
 obtain ⟨KC,hKC⟩:∃ K,K=(u8s key).toArray:=⟨_,rfl⟩
 obtain ⟨M,hM⟩:∃ M,M=refC root:=⟨_,rfl⟩
 obtain ⟨Z,hZ⟩:∃ Z,Z=refC zref:=⟨_,rfl⟩
 have zs:Z.size=34:=by rw [hZ];exact refC_size zref_wf
 obtain ⟨C,hC⟩:∃ C,C=psC p:=⟨_,rfl⟩
 obtain ⟨Y,hYs⟩:∃ C,C=psC 0:=⟨_,rfl⟩
 have cs:C.size=1:=by rw [hC];rfl
 have co:C.all (·.oneCell')=true:=by rw [hC];exact psC_one p
 have ys:Y.size=1:=by rw [hYs];rfl
 have hx:=zeroPS
 have hxr:=zeroRfP
 rw [←hYs] at hx
 rw [←hZ] at hxr
 have hmk:∀ wx:World,Below w.heap.size w wx→Calls Tryz.prog 23 #[.pointer none,.agg (u8s key).toArray,.int .u32 (V ep),.slice asx p cap] wx (fun e w'=>∃ v,e=.returned (.tuple #[v,.agg (refC root),.int .i64 0])∧WPut (fun k=>wx.heap.size≤k) w' v L∧Below wx.heap.size wx w'):=hmk
 rw [←hM] at hmk rs ro ⊢
 rw [←hC] at hnew hbk ⊢
 rw [←hKC] at hmk kc ⊢
 have a0:At (((w.alloc (.cells KC 26)).alloc (.cells Y 29)).alloc (.cells Z 32)) w.heap.size KC 26:=((at_new w KC _).alloc _).alloc _
 have a1:At (((w.alloc (.cells KC 26)).alloc (.cells Y 29)).alloc (.cells Z 32)) (w.heap.size+1) Y 29:=by
  have h:=(at_new (w.alloc (.cells KC 26)) Y 29).alloc (.cells Z 32)
  simpa using h
 have a2:At (((w.alloc (.cells KC 26)).alloc (.cells Y 29)).alloc (.cells Z 32)) (w.heap.size+1+1) Z 32:=by
  have h:=at_new ((w.alloc (.cells KC 26)).alloc (.cells Y 29)) Z 32
  simpa using h
 have b4:Below w.heap.size w (((w.alloc (.cells KC 26)).alloc (.cells Y 29)).alloc (.cells Z 32)):=(((Below.refl _ _).alloc (Nat.le_refl _) _).alloc (by simp) _).alloc (by simp;omega) _
 have z4:w.heap.size+3=(((w.alloc (.cells KC 26)).alloc (.cells Y 29)).alloc (.cells Z 32)).heap.size:=by simp
 have MK:=zh hmk;have PO:=zh hpo;have LO:=zh hlo;have LW:=zh hlw;have IMG:=zh himg;have PLN:=zh hpl;have NEW:=zh hnew;have BK:=zh hbk;have DN:=zh hdn;have RS:=zh rs;have RO:=zh ro;have KS:=zh kc;have ZS:=zh zs;have CS:=zh cs;have CO:=zh co;have YS:=zh ys;have A0:=zh a0;have A1:=zh a1;have A2:=zh a2;have B4:=zh b4;have Z4:=zh z4;have NI:=zh hN;have HIT:=zh hit
 clear hmk hpo hlo hlw himg hpl hnew hbk hdn rs ro kc zs cs co ys a0 a1 a2 b4 z4 hN hM hZ hC hYs hKC hm hp hI hL hroot hrw hP hls hT hbz hit
 go_enter Tryz.func6,Tryz.ntmps6
 go_upto_region 1 with fail
 generalize ((w.alloc (.cells KC 26)).alloc (.cells Y 29)).alloc (.cells Z 32)=w4 at *
 go_wp2_with fail
 refine (NEW.out _).mono ?_
 rintro e w5 ⟨rfl,hb5⟩
 have B5:Hid (Below w.heap.size w (w5.alloc (.cells C 29))):=zh ((B4.out.trans (hb5.mono B4.out.size)).alloc (Nat.le_trans B4.out.size hb5.size) _)
 have A05:=zh ((A0.out.below hb5 A0.out.lt).alloc (.cells C 29));have A15:=zh ((A1.out.below hb5 A1.out.lt).alloc (.cells C 29));have A25:=zh ((A2.out.below hb5 A2.out.lt).alloc (.cells C 29))
 have C5:=zh (at_new w5 C 29)
 have Z5:Hid (w.heap.size+3≤w5.heap.size):=zh (by rw [Z4.out];exact hb5.size)
 clear hb5 A0 A1 A2 B4 Z4
 go_upto_region 2 with (refine wpList_store_new zr 29 _ _ zr zr C _ _ zr zr (by rw [CS.out];exact infoPS) (by rw [YS.out,CS.out]) CO.out ?_)
 obtain ⟨bc,hbc⟩:∃ bc,bc=w5.heap.size:=⟨_,rfl⟩
 rw [←hbc] at C5 Z5 ⊢
 clear hbc hx
 generalize (w5.alloc (.cells C 29))=w6 at *
 go_wp2_with (refine wpList_load_all zr 29 _ zr bc zr _ Tryz.underlying29 zr C _ C5.out (by rw [CS.out];exact infoPS) ?_)
 refine (BK.out _).mono ?_
 rintro e w7 ⟨rfl,hb7⟩
 have B7:Hid (Below w.heap.size w w7):=zh (B5.out.trans (hb7.mono B5.out.size))
 have A07:=zh (A05.out.below hb7 A05.out.lt);have A17:=zh (A15.out.below hb7 A15.out.lt);have A27:=zh (A25.out.below hb7 A25.out.lt);have C7:=zh (C5.out.below hb7 C5.out.lt)
 clear hb7 A05 A15 A25 C5 B5
 go_wp2_with fail
 refine (DN.out _).mono ?_
 rintro e w8 ⟨b,F,rfl,hps,hF,hb8⟩
 have B8:Hid (Below w.heap.size w w8):=zh (B7.out.trans (hb8.mono B7.out.size))
 have A08:=zh (A07.out.below hb8 A07.out.lt);have A18:=zh (A17.out.below hb8 A17.out.lt);have A28:=zh (A27.out.below hb8 A27.out.lt);have C8:=zh (C7.out.below hb8 C7.out.lt)
 have PS8:=zh hps;have FB:=zh hF
 have BC7:Hid (bc < w7.heap.size):=zh C7.out.lt
 have W7:Hid (w.heap.size+1+1 < w7.heap.size):=zh A27.out.lt
 have W78:Hid (w7.heap.size≤w8.heap.size):=zh hb8.size
 have FL:Hid (∀ k,F k→k < w8.heap.size):=zh (pst_lt hps)
 clear hb8 A07 A17 A27 C7 B7 hps hF
 go_wp2_with (refine wpList_load_all zr 26 _ zr w.heap.size zr _ Tryz.underlying26 zr KC _ A08.out (by rw [KS.out];kernel_rfl) ?_)
 refine (MK.out _ B8.out).mono ?_
 rintro e w9 ⟨vp,rfl,hwp,hb9⟩
 obtain ⟨ap,cp,rfl⟩:=hwp.hd
 have hb10:Below w8.heap.size w8 (w9.alloc (.cells M 32)):=hb9.alloc hb9.size _
 have B10:Hid (Below w.heap.size w (w9.alloc (.cells M 32))):=zh (B8.out.trans (hb10.mono B8.out.size))
 have A10:=zh (A18.out.below hb10 A18.out.lt);have A20:=zh (A28.out.below hb10 A28.out.lt);have C10:=zh (C8.out.below hb10 C8.out.lt)
 have P10:=zh (pst_below PS8.out hb10)
 have W10:Hid (WPut (fun k=>w8.heap.size≤k) (w9.alloc (.cells M 32)) (.slice ap m cp) L):=zh (by
  have h:=WPut.keep (w':=w9.alloc (.cells M 32)) hwp (by simp) (fun k _ hlt=>((Below.refl w9.heap.size w9).alloc (Nat.le_refl _) _).block k hlt)
  rw [PLN.out] at h
  exact h)
 have M10:=zh (at_new w9 M 32)
 have BM:Hid (w8.heap.size≤w9.heap.size):=zh hb9.size
 rw [PLN.out]
 clear hwp hb9 hb10 A08 A18 A28 C8 PS8
 go_upto_region 4 with (refine wpList_store_new zr 32 _ _ zr zr M _ _ zr zr (by rw [RS.out];exact infoRfP) (by rw [RS.out,ZS.out]) RO.out ?_)
 clear hxr
 obtain ⟨bm,hbm⟩:∃ bm,bm=w9.heap.size:=⟨_,rfl⟩
 rw [←hbm] at M10 BM ⊢
 clear hbm
 generalize (w9.alloc (.cells M 32))=w10 at *
 go_wp2_with (refine wpList_load_is_wanted zr 29 _ zr bc 0 1 zr _ Tryz.underlying29 zr infoPS C _ C10.out (by rw [CS.out];decide) C (by simp [CS.out]) ?_)
 refine (BK.out _).mono ?_
 rintro e w11 ⟨rfl,hb11⟩
 have B11:Hid (Below w.heap.size w w11):=zh (B10.out.trans (hb11.mono B10.out.size))
 have A11:=zh (A10.out.below hb11 A10.out.lt);have A21:=zh (A20.out.below hb11 A20.out.lt);have C11:=zh (C10.out.below hb11 C10.out.lt);have M11:=zh (M10.out.below hb11 M10.out.lt)
 have P11:=zh (pst_below P10.out hb11)
 have W11:=zh (WPut.keep W10.out hb11.size (fun k _ hlt=>hb11.block k hlt))
 clear hb11 A10 A20 C10 M10 P10 W10 B10
 go_upto_region 6 with fail
 have hnF:∀ k,k < w7.heap.size→¬ F k:=fun k hk h=>by have:=FB.out k h;omega
 have hmF:¬ F bm:=fun h=>by have:=FL.out bm h;have:=BM.out;omega
 have NF:=zh hnF;have MF:=zh hmF
 clear hnF hmF
 refine wp_region_plan_in (fun x'=>At x' bc C 29∧At x' bm M 32) (.take 0 (.take 1 (.take 2 (.take 3 (.take 4 (.sole 5 (.take 6 (.take 7 (.take 8 (.take 10 (.take 11 (.sole 9 (.take 12 (.take 13 (.take 14 (.sole 15 (.sole 16 (.take 17 .done)))))))))))))))))) (by kernel_rfl) (by kernel_rfl) (by kernel_rfl) ⟨C11.out,M11.out⟩ ?_
 (first | refine Mem.pm1 ?_ | refine Mem.pm2 ?_ | refine Mem.pt ?_ | refine Mem.pf ?_)
 (simp only [Mem.zp,Mem.pb,Mem.pc])
 refine plan_row 29 _ bc _ C 29 zr zr zr ze (fun w' hw'=>hw'.1) Tryz.underlying29 zr (by rw [CS.out];exact infoPS) ?_
 (simp only [Mem.zp,Mem.pb,Mem.pc])
 refine plan_row 32 _ bm _ M 32 zr zr zr ze (fun w' hw'=>hw'.2) Tryz.underlying32 zr (by rw [RS.out];exact infoRfP) ?_
 (simp only [Mem.zp,Mem.pb,Mem.pc])
 iterate 2 ((first | refine Mem.pm1 ?_ | refine Mem.pm2 ?_ | refine Mem.pt ?_ | refine Mem.pf ?_);(simp only [Mem.zp,Mem.pb,Mem.pc]))
 refine plan_call 24 _ _ _ (by kernel_rfl) zr zr zr (by first | exact Mem.ev_none _ | (simp only [List.map_toArray,List.map_cons,List.map_nil,Mem.ev_tmp,List.getD_cons_succ,List.getD_cons_zero] <;> rfl)) ?_
 refine (T.lay (F:=F) (G:=fun k=>w8.heap.size≤k) L _ w11.drew (pst_below P11.out (Below.refl _ _).drew) ((ok_new N (by have:=NI.out;have:=HIT.out;omega) (by have:=NI.out;have:=HIT.out;omega)).mono (by omega)) (WPut.keep W11.out (Nat.le_refl _) (fun k _ _=>rfl)) (fun k h1 h2=>by have:=FL.out k h2;omega) (by rw [PLN.out];have:=HIT.out;omega) PO.out).mono ?_
 rintro e w12 ⟨rfl,hse⟩
 obtain ⟨⟨F',hp',hF'⟩,hc⟩:=hse
 have hat:∀ {k:Nat} {D:Array Value} {t:TypeId},At w11 k D t→¬ F k→At w12 k D t:=fun {k D t} h hn=>by
  have hl:=h.lt
  have hb:=hc.block k hl hn
  unfold At at *
  rw [hb];exact h
 have A12:=zh (hat A11.out (NF.out _ (by have:=W7.out;omega)));have A22:=zh (hat A21.out (NF.out _ W7.out));have C12:=zh (hat C11.out (NF.out _ BC7.out));have M12:=zh (hat M11.out MF.out)
 have FB2:Hid (∀ k,F' k→w7.heap.size≤k∧(F k∨w11.heap.size≤k)):=zh (fun k h=>by
  have hk:=hF' k h
  refine ⟨?_,hk⟩
  rcases hk with g | g
  ·exact FB.out k g
  ·have h1:=A21.out.lt
   have h2:=C11.out.lt
   have h3:=W78.out
   have h4:=BM.out
   have h5:=M11.out.lt
   have g':w11.heap.size≤k:=g
   omega)
 have P12:=zh hp';have B12:Hid (Below w.heap.size w w12):=zh (Chg.below hc B11.out.drew (fun k h=>by have:=FB.out k h;have:=W7.out;omega) B11.out.size)
 clear hp' hF' hc hat
 refine ⟨_,rfl,⟨C12.out,M12.out⟩,?_⟩
 (simp only [Mem.zp,Mem.pb,Mem.pc])
 refine plan_bin _ _ _ _ _ _ _ (.bool true) zr zr zr ze ze (fun wx=>o_ieq _ _ _ _ _ wx) ?_
 (simp only [Mem.zp,Mem.pb,Mem.pc])
 iterate 3 ((first | refine Mem.pm1 ?_ | refine Mem.pm2 ?_ | refine Mem.pt ?_ | refine Mem.pf ?_);(simp only [Mem.zp,Mem.pb,Mem.pc]))
 refine plan_len _ _ _ _ m _ zr zr zr zr ze (fun wx=>by go_simp) ?_
 (simp only [Mem.zp,Mem.pb,Mem.pc])
 refine plan_call 25 _ _ _ (by kernel_rfl) zr zr zr (by first | exact Mem.ev_none _ | (simp only [List.map_toArray,List.map_cons,List.map_nil,Mem.ev_tmp,List.getD_cons_succ,List.getD_cons_zero] <;> rfl)) ?_
 refine (pflush_any w12 P12.out (LO.out.mono (by have:=HIT.out;omega))).mono ?_
 rintro e w13 ⟨rfl,hse⟩
 rw [LW.out]
 obtain ⟨⟨F2,hp',hF'⟩,hc⟩:=hse
 rw [IMG.out] at hp'
 have hn2:∀ k,k < w7.heap.size→¬ F' k:=fun k hk h=>by have:=(FB2.out k h).1;omega
 have hat:∀ {k:Nat} {D:Array Value} {t:TypeId},At w12 k D t→¬ F' k→At w13 k D t:=fun {k D t} h hn=>by
  have hl:=h.lt
  have hb:=hc.block k hl hn
  unfold At at *
  rw [hb];exact h
 have A13:=zh (hat A12.out (hn2 _ (by have:=W7.out;omega)));have A23:=zh (hat A22.out (hn2 _ W7.out));have C13:=zh (hat C12.out (hn2 _ BC7.out))
 have M13:=zh (hat M12.out (fun h=>by
  rcases (FB2.out _ h).2 with g | g
  ·exact MF.out g
  ·have:=M11.out.lt;omega))
 have FB3:Hid (∀ k,F2 k→w7.heap.size≤k):=zh (fun k h=>by
  rcases hF' k h with g | g
  ·exact (FB2.out k g).1
  ·have h1:=C12.out.lt
   have h2:=M12.out.lt
   have h3:=W78.out
   have h4:=BM.out
   omega)
 have P13:=zh hp';have B13:Hid (Below w.heap.size w w13):=zh (Chg.below hc B12.out (fun k h=>by have:=(FB2.out k h).1;have:=W7.out;omega) B12.out.size)
 clear hp' hF' hc hat hn2
 refine ⟨_,rfl,⟨C13.out,M13.out⟩,?_⟩
 (simp only [Mem.zp,Mem.pb,Mem.pc])
 refine plan_bin _ _ _ _ _ _ _ (.bool true) zr zr zr ze ze (fun wx=>o_ieq _ _ _ _ _ wx) ?_
 (simp only [Mem.zp,Mem.pb,Mem.pc])
 iterate 2 ((first | refine Mem.pm1 ?_ | refine Mem.pm2 ?_ | refine Mem.pt ?_ | refine Mem.pf ?_);(simp only [Mem.zp,Mem.pb,Mem.pc]))
 have hb1:bc≠w.heap.size+1:=fun h=>by have:=Z5.out;omega
 have hb2:bc≠w.heap.size+1+1:=fun h=>by have:=Z5.out;omega
 have hm1:bm≠w.heap.size+1:=fun h=>by have:=BM.out;have:=W78.out;have:=W7.out;omega
 have hm2:bm≠w.heap.size+1+1:=fun h=>by have:=BM.out;have:=W78.out;have:=W7.out;omega
 refine plan_store 29 _ _ (w.heap.size+1) C Y 29 zr zr zr zr ze ze (by rw [CS.out];exact infoPS) A13.out (by rw [CS.out,YS.out]) CO.out ⟨C13.out.row_other C hb1,M13.out.row_other C hm1⟩ ?_
 have A24:=zh (A23.out.row_other C (b:=w.heap.size+1+1) (g:=w.heap.size+1) (by omega))
 have A14:=zh (A13.out.row C)
 refine plan_store 32 _ _ (w.heap.size+1+1) M Z 32 zr zr zr zr ze ze (by rw [RS.out];exact infoRfP) A24.out (by rw [RS.out,ZS.out]) RO.out ⟨(C13.out.row_other C hb1).row_other M hb2,(M13.out.row_other C hm1).row_other M hm2⟩ ?_
 have A25:=zh (A24.out.row M)
 have A15:=zh (A14.out.row_other M (b:=w.heap.size+1) (g:=w.heap.size+1+1) (by omega))
 have PE:Hid (PSt F2 b ((w13.setRow (w.heap.size+1) C).setRow (w.heap.size+1+1) M) I):=zh (pst_keep P13.out (by simp) (fun k h _=>by
  have h1:=FB3.out k h
  have h2:=W7.out
  rw [setRow_other _ _ k _ (by omega),setRow_other _ _ k _ (by omega)]))
 have BE:Hid (Below w.heap.size w ((w13.setRow (w.heap.size+1) C).setRow (w.heap.size+1+1) M)):=zh (below_row (below_row B13.out (by omega) _) (by omega) _)
 have FE:Hid (∀ k,F2 k→w.heap.size≤k):=zh (fun k h=>by have:=FB3.out k h;have:=W7.out;omega)
 (first | refine Mem.pm1 ?_ | refine Mem.pm2 ?_ | refine Mem.pt ?_ | refine Mem.pf ?_)
 (simp only [Mem.zp,Mem.pb,Mem.pc])
 refine plan_nil ?_
 go_wp2_with fail
 try simp only [Exit.inBlock,Exit.then]
 refine ret_four zr (w.heap.size+1) 29 C _ (w.heap.size+1+1) 32 M _ _ _ zr zr zr zr A15.out Tryz.underlying29 zr (by rw [CS.out];exact infoPS) A25.out Tryz.underlying32 zr (by rw [RS.out];exact infoRfP) ?_
 exact ⟨b,F2,rfl,PE.out,FE.out,BE.out⟩
def allP (P:List (Lb8)):Bool:=P.all fun x=>x.length == 256
theorem arePages_any (ts:List (Lb8)) (v:Value) (w:World) (hv:Sls w v ts) (_hl:∀ x∈ts,x.length≤1000) (hn:ts.length≤1000):Calls Tryz.prog 45 #[v] w (fun e w'=>e=.returned (.bool (allP ts))∧w'=w):=by
 have hv0:=hv
 obtain ⟨asx,caps,rfl,_,_⟩:=hv0
 have hno:∀ j,j < ts.length→(ts.getD j []).length≠256→allP ts=false:=fun j hj h=>by
  unfold allP
  rw [List.all_eq_false]
  refine ⟨ts.getD j [],?_,by simpa using h⟩
  rw [List.getD_eq_getElem?_getD,List.getElem?_eq_getElem hj]
  exact List.getElem_mem hj
 have hyes:(∀ j,j < ts.length→(ts.getD j []).length=256)→allP ts=true:=fun h=>by
  unfold allP
  rw [List.all_eq_true]
  intro p hp
  obtain ⟨j,hj,e⟩:=List.mem_iff_getElem.1 hp
  have:=h j hj
  rw [List.getD_eq_getElem?_getD,List.getElem?_eq_getElem hj,Option.getD_some,e] at this
  simpa using this
 obtain ⟨Y,hY⟩:∃ Y,Y=allP ts:=⟨_,rfl⟩
 rw [←hY] at hyes hno ⊢
 obtain ⟨n,hnn⟩:∃ n,n=ts.length:=⟨_,rfl⟩
 rw [←hnn] at hv hyes hno hn ⊢
 have HS:=zh hv;have HN:=zh hnn;have YES:=zh hyes;have NO:=zh hno
 clear hv hnn hyes hno hY _hl
 go_enter Tryz.func45,Tryz.ntmps45
 go_wp2_with fail
 go_loopw [7] (fun vi wr=>∃ j:Nat,j≤n∧vi=.int .i64 (j:Int)∧(∀ k,k < j→(ts.getD k []).length=256)∧wr=w) (fun vi _=>n - (intOf vi).toNat)
 case atStart=>exact ⟨0,by omega,rfl,fun k hk=>by omega,rfl⟩
 case round=>
  obtain ⟨j,hj,rfl,hal,rfl⟩:=hrel
  by_cases hlt:j < n
  ·have hlt':(j:Int) < (n:Int):=by omega
   have hps:j < ts.length:=by rw [←HN.out];exact hlt
   obtain ⟨pb,po,vi,rfl,hpb,hcell,hsl⟩:=sls_at HS.out hps
   have hy:=NO.out j hlt
   have hal2:(ts.getD j []).length=256→∀ k,k < j+1→(ts.getD k []).length=256:=fun h k hk=>by
    rcases Nat.lt_or_ge k j with x | x
    ·exact hal k x
    ·rw [show k=j by omega];exact h
   obtain ⟨a1,c1,rfl⟩:=sl_inv hsl
   obtain ⟨m,hm⟩:∃ m,m=(ts.getD j []).length:=⟨_,rfl⟩
   rw [←hm] at hcell hy hal2
   have HY:=zh hy;have AL2:=zh hal2
   clear hy hal2 hal hsl hm hps
   by_cases hbg:m=256
   ·subst hbg
    have AL3:=zh (AL2.out rfl)
    go_wp2_with fail
    go_roundw
    case rel=>exact ⟨j+1,by omega,by go_num,AL3.out,by first | rfl | trivial⟩
    case measure=>simp [intOf];omega
   ·have hb2:¬ (m:Int)=256:=by omega
    have HY2:=zh (HY.out hbg)
    go_wp2_with fail
    go_ret
    exact ⟨by rw [HY2.out];rfl,rfl⟩
  ·have hin:j=n:=by omega
   subst hin
   have HY:=zh (YES.out hal)
   have hge:¬ (j:Int) < (j:Int):=by omega
   go_wp2_with fail
   go_ret
   exact ⟨by rw [HY.out];rfl,rfl⟩
theorem kidsT_none {p:Nat} {z:Int} {pg:Lb8}:kidsT p z pg=parseN pg ((KZ p z).length:Int):=by
 unfold kidsT
 by_cases h:(KZ p z).length=0
 ·rw [if_pos h,h];rfl
 ·rw [if_neg h]
theorem pkids14_own (p:Nat) (z:Int) (pg:Lb8) (v:Value) (w:World) (hv:Sl w v pg) (hl:pg.length≤1000) (h1:p≤216):Calls Tryz.prog 54 #[.agg (psC p),.int .i64 z,v] w (RfOwn 32 w (kidsT p z pg).1 (kidsT p z pg).2):=by
 have kd:=fun wx=>pkids_any p z wx h1
 have ps:=fun wx (h:Below w.heap.size w wx)=>pparse13_own pg ((KZ p z).length:Int) v wx (hv.below h) hl
 rw [←kidsT_none] at ps
 obtain ⟨Y,hY⟩:∃ Y,Y=kidsT p z pg:=⟨_,rfl⟩
 rw [←hY] at ps ⊢
 have hb:=(Below.refl w.heap.size w).alloc (Nat.le_refl _) (.cells (psC p) 29)
 have ha:=at_new w (psC p) 29
 have cs:(psC p).size=1:=rfl
 obtain ⟨C,hC⟩:∃ C,C=psC p:=⟨_,rfl⟩
 rw [←hC] at kd hb ha cs ⊢
 obtain ⟨K,hK⟩:∃ K,K=KZ p z:=⟨_,rfl⟩
 rw [←hK] at kd ps
 have KD:=zh kd;have PS:=zh ps;have HB:=zh hb;have HA:=zh ha;have CS:=zh cs
 obtain ⟨a,c,rfl⟩:=sl_inv hv
 clear kd ps hb ha cs hv hY hC hK hl
 go_enter Tryz.func54,Tryz.ntmps54
 go_upto_region 1 with fail
 generalize w.alloc (.cells C 29)=w1 at *
 go_wp2_with (refine wpList_load_all zr 29 _ zr w.heap.size zr _ Tryz.underlying29 zr C _ HA.out (by rw [CS.out];exact infoPS) ?_)
 refine (KD.out _).mono ?_
 rintro e w2 ⟨vk,rfl,hk,hb2⟩
 obtain ⟨ak,ck,rfl⟩:=hk.hd
 have B2:=zh (HB.out.trans (hb2.mono HB.out.size))
 clear hk hb2
 go_wp2_with fail
 refine (PS.out _ B2.out).mono ?_
 rintro e w3 ⟨vr,rfl,hr,hb3⟩
 have R3:=zh hr;have B3:=zh (B2.out.trans (hb3.mono B2.out.size))
 clear hr hb3
 go_wp2_with fail
 go_ret2
 exact ⟨_,rfl,ownsRow_base R3.out B2.out.size,B3.out⟩
theorem pkids14_any (p:Nat) (z:Int) (pg:Lb8) (v:Value) (w:World) (hv:Sl w v pg) (hl:pg.length≤1000) (h1:p≤216):Calls Tryz.prog 54 #[.agg (psC p),.int .i64 z,v] w (RfEnd w (kidsT p z pg).1 (kidsT p z pg).2):=
 (pkids14_own p z pg v w hv hl h1).mono fun _ _ ⟨v,e,ho,hb⟩=>⟨v,e,own_slrf ho (kidsT_wf _ _ _),hb⟩
def FtEnd (w:World) (l:Lb8) (n:Int) (e:Ending) (w':World):Prop:=∃ v,e=.returned (.tuple #[v,.int .i64 n])∧SlB (fun k=>w.heap.size≤k) w' v l∧Below w.heap.size w w'
theorem FtEnd.seal {w w':World} {l:Lb8} {n:Int} {e:Ending} (h:FtEnd w l n e w'):SealEnd w l n e w':=let ⟨v,e,hs,hb⟩:=h;⟨v,e,hs.sl,hb⟩
theorem bz_le (p:Nat) (z k:Int) (h1:p≤216):BZ p z k≤9223372036854775807:=by
 have:=itn_le259 p h1
 unfold BZ
 split <;> omega
theorem chg_none {w w':World} (h:Chg (fun _=>False) w w'):Below w.heap.size w w':=h.below (Below.refl _ _) (fun _ h=>h.elim) (Nat.le_refl _)
theorem pfetch14_any {F:Foot} {b:Nat} {s:St6} (key:Lb8) (p:Nat) (z:Int) (r:RefV) (w:World) (hT:TT w) (lk:key.length=32) (hp:PSt F b w s) (hok:Ok6 1000 s) (hw0:s.w=[]) (h1:p≤216) (hrw:r.Wf) :
 Calls Tryz.prog 36 #[.pointer none,rq b,.agg (u8s key).toArray,.agg (psC p),.int .i64 z,.agg (refC r)] w (FtEnd w (fetchT s.b key p z r).1 (fetchT s.b key p z r).2):=by
 have bk:=fun wx=>pblock_any p z r.pl wx h1
 have hbz:=bz_le p z r.pl h1
 have hrd:∀ n:Nat,(n:Int)=BZ p z r.pl→n < s.n→stRead s n=blkOf s.b (BZ p z r.pl).toNat:=fun n hn _=>by
  rw [←hn,Int.toNat_natCast]
  unfold stRead
  rw [hw0]
  rfl
 have hsb:=hok.b
 have rdg:=fun (n:Nat) wx (h:Below w.heap.size w wx) (hn:n < s.n)=>pread_any n wx (pst_below hp h) hok hn
 have rdb:=fun wx (h:Below w.heap.size w wx) hbad=>pread_bad (BZ p z r.pl) wx (pst_below hp h) hok hbad
 have op:=fun (l:Lb8) (v:Value) (y wx:World) (h:Below w.heap.size w wx) (hv:SlB (fun k=>y.heap.size≤k) wx v l) (hl:l.length=256)=>popen_any (F:=fun _=>False) (bp:=.pointer none) (ts:=[]) key lk r hrw (BZ p z r.pl) hbz l v wx wx (.inl ⟨rfl,fun _ h=>h⟩) (by simp) hv (fun _ _ h=>h) (by omega) (hT.below h).1 (hT.below h).2 (Below.refl _ _) (fun _ h=>h.elim)
 have hF:fetchT s.b key p z r=if BZ p z r.pl < 0∨(s.b.length:Int) < 256*BZ p z r.pl+256 then ([],1) else openR key r (BZ p z r.pl) (blkOf s.b (BZ p z r.pl).toNat):=rfl
 obtain ⟨Y,hY⟩:∃ Y,Y=fetchT s.b key p z r:=⟨_,rfl⟩
 rw [←hY] at hF ⊢
 have rs:=refC_size hrw;have r0:=ref0 r
 obtain ⟨M,hM⟩:∃ M,M=refC r:=⟨_,rfl⟩
 have kc:(u8s key).toArray.size=32:=by simp [u8s_length,lk]
 obtain ⟨KC,hKC⟩:∃ K,K=(u8s key).toArray:=⟨_,rfl⟩
 have cs:(psC p).size=1:=rfl
 obtain ⟨C,hC⟩:∃ C,C=psC p:=⟨_,rfl⟩
 rw [←hM] at rs r0 op ⊢
 rw [←hKC] at kc op ⊢
 rw [←hC] at bk cs ⊢
 obtain ⟨Z,hZ⟩:∃ Z,Z=BZ p z r.pl:=⟨_,rfl⟩
 rw [←hZ] at bk hrd rdb op hF hbz
 obtain ⟨pl,hpl⟩:∃ pl,pl=r.pl:=⟨_,rfl⟩
 rw [←hpl] at bk r0
 have a0:At (((w.alloc (.cells KC 26)).alloc (.cells C 29)).alloc (.cells M 32)) w.heap.size KC 26:=((at_new w KC _).alloc _).alloc _
 have a1:At (((w.alloc (.cells KC 26)).alloc (.cells C 29)).alloc (.cells M 32)) (w.heap.size+1) C 29:=by
  have h:=(at_new (w.alloc (.cells KC 26)) C 29).alloc (.cells M 32)
  simpa using h
 have a2:At (((w.alloc (.cells KC 26)).alloc (.cells C 29)).alloc (.cells M 32)) (w.heap.size+1+1) M 32:=by
  have h:=at_new ((w.alloc (.cells KC 26)).alloc (.cells C 29)) M 32
  simpa using h
 have b4:Below w.heap.size w (((w.alloc (.cells KC 26)).alloc (.cells C 29)).alloc (.cells M 32)):=(((Below.refl _ _).alloc (Nat.le_refl _) _).alloc (by simp) _).alloc (by simp;omega) _
 have BK:=zh bk;have RD:=zh hrd;have SB:=zh hsb;have RDG:=zh rdg;have RDB:=zh rdb;have OP:=zh op;have HF:=zh hF;have RS:=zh rs;have R0:=zh r0;have KS:=zh kc;have CS:=zh cs;have A0:=zh a0;have A1:=zh a1;have A2:=zh a2;have B4:=zh b4;have ZM:=zh hbz;have OK:=zh hok
 clear bk hrd hsb rdg rdb op hF rs r0 kc cs a0 a1 a2 b4 hbz hZ hpl hC hKC hM hY hok hp hT lk hw0 hrw
 go_enter Tryz.func36,Tryz.ntmps36
 go_upto_region 1 with fail
 generalize ((w.alloc (.cells KC 26)).alloc (.cells C 29)).alloc (.cells M 32)=w4 at *
 have f0:w4.cell? ⟨w.heap.size+1+1,0,none⟩=some (.int .i64 pl):=(A2.out.cell 0).trans R0.out
 go_wp2_with (refine wpList_load_all zr 29 _ zr (w.heap.size+1) zr _ Tryz.underlying29 zr C _ A1.out (by rw [CS.out];exact infoPS) ?_)
 refine (BK.out _).mono ?_
 rintro e w5 ⟨rfl,hb5⟩
 have B5:=zh (B4.out.trans (hb5.mono B4.out.size));have A05:=zh (A0.out.below hb5 A0.out.lt);have A25:=zh (A2.out.below hb5 A2.out.lt)
 clear hb5 f0 A0 A1 A2 B4
 by_cases hz:Z < 0
 ·have hy:Y=([],1):=by rw [HF.out,if_pos (.inl hz)]
  have HY:=zh hy
  clear hy
  go_wp2_with fail
  go_ret2
  exact ⟨_,by rw [HY.out];rfl,by rw [HY.out];exact slB_nil _ _,B5.out⟩
 ·by_cases hb:Z < (s.n:Int)
  ·obtain ⟨n,hn⟩:∃ n:Nat,(n:Int)=Z:=⟨Z.toNat,by omega⟩
   have hns:n < s.n:=by omega
   have hy:Y=openR key r Z (stRead s n):=by
    rw [RD.out n hn hns,HF.out,if_neg (by have:=SB.out;omega)]
   have rg:=fun wx h=>RDG.out n wx h hns
   have hl:(stRead s n).length=256:=by
    rw [RD.out n hn hns,blkOf_length SB.out (by omega)]
   obtain ⟨l,hle⟩:∃ l,l=stRead s n:=⟨_,rfl⟩
   rw [←hle] at hy rg hl
   have HY:=zh hy;have RG:=zh rg;have HL:=zh hl
   subst hn
   clear hy rg hl hle hns hb
   go_wp2_with fail
   refine (RG.out _ B5.out).mono ?_
   rintro e w6 ⟨v6,rfl,hs6,hb6⟩
   have S6:=zh hs6;have B6:=zh (B5.out.trans (hb6.mono B5.out.size));have A06:=zh (A05.out.below hb6 A05.out.lt);have A26:=zh (A25.out.below hb6 A25.out.lt)
   clear hs6 hb6 A05 A25
   go_wp2_with (first
    | (refine wpList_load_all zr 26 _ zr w.heap.size zr _ Tryz.underlying26 zr KC _ A06.out (by rw [KS.out];kernel_rfl) ?_)
    | (refine wpList_load_all zr 32 _ zr (w.heap.size+1+1) zr _ Tryz.underlying32 zr M _ A26.out (by rw [RS.out];exact infoRfP) ?_))
   refine (OP.out l _ w5 _ B6.out S6.out HL.out).mono ?_
   rintro e w7 ⟨v7,F7,rfl,hs7,_,_,hc7⟩
   have S7:=zh (hs7.mono (G:=fun k=>w.heap.size≤k) fun k hk _=>Nat.le_trans B6.out.size hk.1);have B7:=zh (B6.out.trans ((chg_none hc7).mono B6.out.size))
   clear hs7 hc7
   go_wp2_with fail
   go_ret2
   exact ⟨_,by rw [HY.out];rfl,by rw [HY.out];exact S7.out,B7.out⟩
  ·have hy:Y=([],1):=by rw [HF.out,if_pos (.inr (by have:=SB.out;omega))]
   have HY:=zh hy;have RB:=zh (fun wx h=>RDB.out wx h (.inr (by omega)))
   clear hy
   go_wp2_with fail
   refine (RB.out _ B5.out).mono ?_
   rintro e w6 ⟨v6,rfl,hs6,hb6⟩
   have B6:=zh (B5.out.trans (hb6.mono B5.out.size))
   clear hs6 hb6
   go_wp2_with fail
   go_ret2
   exact ⟨_,by rw [HY.out];rfl,by rw [HY.out];exact slB_nil _ _,B6.out⟩
theorem pfetchKids_own {F:Foot} {b:Nat} {s:St6} (key:Lb8) (p:Nat) (z:Int) (r:RefV) (w:World) (hT:TT w) (lk:key.length=32) (hp:PSt F b w s) (hok:Ok6 1000 s) (hw0:s.w=[]) (h1:p≤216) (hrw:r.Wf) :
 Calls Tryz.prog 34 #[.pointer none,rq b,.agg (u8s key).toArray,.agg (psC p),.int .i64 z,.agg (refC r)] w (RfOwn 32 w (fkT s.b key p z r).1 (fkT s.b key p z r).2):=by
 have ft:=fun wx (h:Below w.heap.size w wx)=>pfetch14_any key p z r wx (hT.below h) lk (pst_below hp h) hok hw0 h1 hrw
 have kd:=fun v wx h hl=>pkids14_own p z (fetchT s.b key p z r).1 v wx h hl h1
 have hlen:(fetchT s.b key p z r).1.length≤1000:=by
  unfold fetchT
  split
  ·simp
  ·have hb:(blkOf s.b (BZ p z r.pl).toNat).length≤256:=by unfold blkOf;rw [List.length_take];omega
   unfold openR
   split
   ·simp
   ·split
    all_goals first | (show ([]:Lb8).length≤1000;simp;done) | (show (sealL _ _ _ _).length≤1000;rw [sealL_length];omega)
 have hF:fkT s.b key p z r=if (fetchT s.b key p z r).2≠0 then ([],(fetchT s.b key p z r).2) else kidsT p z (fetchT s.b key p z r).1:=rfl
 obtain ⟨Y,hY⟩:∃ Y,Y=fkT s.b key p z r:=⟨_,rfl⟩
 rw [←hY] at hF ⊢
 obtain ⟨X,hX⟩:∃ X,X=fetchT s.b key p z r:=⟨_,rfl⟩
 rw [←hX] at hF ft kd hlen
 obtain ⟨pg,q⟩:=X
 simp only at hF ft kd hlen
 have rs:=refC_size hrw
 obtain ⟨M,hM⟩:∃ M,M=refC r:=⟨_,rfl⟩
 have kc:(u8s key).toArray.size=32:=by simp [u8s_length,lk]
 obtain ⟨KC,hKC⟩:∃ K,K=(u8s key).toArray:=⟨_,rfl⟩
 have cs:(psC p).size=1:=rfl
 obtain ⟨C,hC⟩:∃ C,C=psC p:=⟨_,rfl⟩
 rw [←hM] at rs ft ⊢
 rw [←hKC] at kc ft ⊢
 rw [←hC] at ft kd cs ⊢
 have a0:At (((w.alloc (.cells KC 26)).alloc (.cells C 29)).alloc (.cells M 32)) w.heap.size KC 26:=((at_new w KC _).alloc _).alloc _
 have a1:At (((w.alloc (.cells KC 26)).alloc (.cells C 29)).alloc (.cells M 32)) (w.heap.size+1) C 29:=by
  have h:=(at_new (w.alloc (.cells KC 26)) C 29).alloc (.cells M 32)
  simpa using h
 have a2:At (((w.alloc (.cells KC 26)).alloc (.cells C 29)).alloc (.cells M 32)) (w.heap.size+1+1) M 32:=by
  have h:=at_new ((w.alloc (.cells KC 26)).alloc (.cells C 29)) M 32
  simpa using h
 have b4:Below w.heap.size w (((w.alloc (.cells KC 26)).alloc (.cells C 29)).alloc (.cells M 32)):=(((Below.refl _ _).alloc (Nat.le_refl _) _).alloc (by simp) _).alloc (by simp;omega) _
 have FT:=zh ft;have KD:=zh kd;have HL:=zh hlen;have HF:=zh hF;have RS:=zh rs;have KS:=zh kc;have CS:=zh cs;have A0:=zh a0;have A1:=zh a1;have A2:=zh a2;have B4:=zh b4
 clear ft kd hlen hF rs kc cs a0 a1 a2 b4 hX hY hM hKC hC hT lk hp hok hw0 hrw
 go_enter Tryz.func34,Tryz.ntmps34
 go_upto_region 1 with fail
 generalize ((w.alloc (.cells KC 26)).alloc (.cells C 29)).alloc (.cells M 32)=w4 at *
 go_wp2_with (first
  | (refine wpList_load_all zr 26 _ zr w.heap.size zr _ Tryz.underlying26 zr KC _ A0.out (by rw [KS.out];kernel_rfl) ?_)
  | (refine wpList_load_all zr 29 _ zr (w.heap.size+1) zr _ Tryz.underlying29 zr C _ A1.out (by rw [CS.out];exact infoPS) ?_)
  | (refine wpList_load_all zr 32 _ zr (w.heap.size+1+1) zr _ Tryz.underlying32 zr M _ A2.out (by rw [RS.out];exact infoRfP) ?_))
 refine (FT.out _ B4.out).mono ?_
 rintro e w5 ⟨v5,rfl,hs5,hb5⟩
 have S5:=zh hs5.sl;have B5:=zh (B4.out.trans (hb5.mono B4.out.size));have A15:=zh (A1.out.below hb5 A1.out.lt)
 clear hs5 hb5 A0 A1 A2 B4
 by_cases hq:q=0
 ·subst hq
  have hy:Y=kidsT p z pg:=by rw [HF.out,if_neg (fun n=>n rfl)]
  have HY:=zh hy
  clear hy
  go_wp2_with (refine wpList_load_all zr 29 _ zr (w.heap.size+1) zr _ Tryz.underlying29 zr C _ A15.out (by rw [CS.out];exact infoPS) ?_)
  refine (KD.out _ _ S5.out HL.out).mono ?_
  rintro e w6 ⟨v6,rfl,hr6,hb6⟩
  have R6:=zh hr6;have B6:=zh (B5.out.trans (hb6.mono B5.out.size))
  clear hr6 hb6
  go_wp2_with fail
  go_ret2
  exact ⟨_,by rw [HY.out];rfl,by rw [HY.out];exact ownsRow_base R6.out B5.out.size,B6.out⟩
 ·have hy:Y=([],q):=by rw [HF.out,if_pos hq]
  have HY:=zh hy
  clear hy
  go_wp2_with fail
  go_ret2
  exact ⟨_,by rw [HY.out];rfl,by rw [HY.out];exact World.ownsRow_nil _ _ _ _,B5.out⟩
theorem pfetchKids_any {F:Foot} {b:Nat} {s:St6} (key:Lb8) (p:Nat) (z:Int) (r:RefV) (w:World) (hT:TT w) (lk:key.length=32) (hp:PSt F b w s) (hok:Ok6 1000 s) (hw0:s.w=[]) (h1:p≤216) (hrw:r.Wf) :
 Calls Tryz.prog 34 #[.pointer none,rq b,.agg (u8s key).toArray,.agg (psC p),.int .i64 z,.agg (refC r)] w (RfEnd w (fkT s.b key p z r).1 (fkT s.b key p z r).2):=
 (pfetchKids_own key p z r w hT lk hp hok hw0 h1 hrw).mono fun _ _ ⟨v,e,ho,hb⟩=>⟨v,e,own_slrf ho (fkT_wf _ _ _ _ _),hb⟩
theorem made_refs (n:Nat):(madeCells (Value.agg (refC zref)).cells (n*34)).toList=refCs (List.replicate n zref):=by
 have hw:∀ r∈List.replicate n zref,r.Wf:=fun r hr=>by rw [List.eq_of_mem_replicate hr];exact zref_wf
 have hz:(Value.agg (refC zref)).cells=refC zref:=rfl
 have hs:(refC zref).size=34:=refC_size zref_wf
 rw [hz]
 apply List.ext_getElem?
 intro i
 by_cases hi:i < n*34
 ·have h1:i / 34 < n:=by omega
  have e:i=i / 34*34+i % 34:=by omega
  have h2:=refCs_get (List.replicate n zref) hw (i / 34) (i % 34) (by simpa using h1) (by omega)
  rw [←e] at h2
  rw [h2,List.getD_eq_getElem?_getD,List.getElem?_replicate,if_pos h1,Option.getD_some]
  have hr:refL zref=(refC zref).toList:=rfl
  rw [hr,Array.getElem?_toList,Array.getElem?_toList]
  unfold madeCells
  rw [Array.getElem?_map,Array.getElem?_range,if_pos hi,Option.map_some,hs]
  have hlt:i % 34 < (refC zref).size:=by omega
  rw [Array.getElem?_eq_getElem hlt,getElem!_pos (refC zref) (i % 34) hlt]
 ·rw [List.getElem?_eq_none (by rw [Array.length_toList,size_madeCells];omega),List.getElem?_eq_none (by rw [refCs_length _ hw,List.length_replicate];omega)]
theorem made_none (n:Nat):(madeCells (Value.slice none 0 0).cells (n*1)).toList=List.replicate n (.slice none 0 0):=by
 rw [Nat.mul_one]
 exact toList_madeCells_one _ n
theorem each_none (D:Foot) (w:World):∀ n,Each2 (fun p q=>SlB D w p q) (List.replicate n (.slice none 0 0)) (List.replicate n [])
 | 0=>trivial
 | n+1=>⟨slB_nil _ _,each_none D w n⟩
theorem Each2.set {α β:Type} {R:α→β→Prop}:∀ {l:List α} {m:List β} (i:Nat) {x:α} {y:β},Each2 R l m→R x y→Each2 R (l.set i x) (m.set i y)
 | [],[],_,_,_,_,_=>trivial
 | _::_,_::_,0,_,_,h,hr=>⟨hr,h.2⟩
 | _::_,_::_,i+1,_,_,h,hr=>⟨h.1,Each2.set i h.2 hr⟩
theorem own_set1 {w:World} {B i n:Nat} {t:TypeId} {v x:Value} {hs:List Value} (h:w.ownsRow B t 1 v n hs) (hi:i < n) :
 ∃ g cap cur,v=.slice (some ⟨g,0,none⟩) n cap∧B≤g∧g < w.heap.size∧At w g cur t∧i < cur.size∧∀ w',At w' g (cur.setIfInBounds i x) t→w'.ownsRow B t 1 v n (hs.set i x):=by
 have hl0:=h.1
 rcases h.2 with ⟨_,h0⟩ | ⟨g,cap,cur,rfl,hg,hh,hn,hm,hsz,ht⟩
 ·omega
 refine ⟨g,cap,cur,rfl,hg,(Array.getElem?_eq_some_iff.1 hh).1,hh,by rw [hsz];omega,fun w' hA=>⟨by rw [List.length_set];exact hl0,.inr ⟨g,cap,cur.setIfInBounds i x,rfl,hg,hA,hn,hm,?_,?_⟩⟩⟩
 ·rw [Array.size_setIfInBounds];exact hsz
 ·rw [Array.toList_setIfInBounds,←ht]
  exact List.take_set
def P14:List (Lb8):=[pageL [7]]
theorem goodP14:GoodP P14:=⟨by decide,by decide,fun x hx=>by rw [List.mem_singleton.1 hx];exact pageL_length _⟩
theorem way14:wayT (stImg K1 3 P14).b K1 1 (refT K1 3 P14 1) 0=([refT K1 3 P14 0,refT K1 3 P14 1],pageL [7],0):=by
 have h:=backW (key:=K1) (ep:=3) goodP14 (img_b goodP14) (img_blks goodP14) 0 (by decide)
 have e1:itn P14.length - 1=1:=by decide
 have e2:topn P14.length+1=2:=by decide
 have e3:itp P14.length 0 0=0:=rfl
 have e4:itp P14.length 0 1=1:=by decide
 rw [e1,e2] at h
 simp only [List.range_succ,List.range_zero,List.nil_append,List.map_cons,List.map_nil,List.cons_append,e3,e4] at h
 exact h
theorem o_beq8 {P:Program} (t t2:TypeId) (q:Int) (x y:Operand) (w:World):(do eqGuard .eql t x y (.int .u8 q) (.int .u8 q);binOp .eql t2 (.int .u8 q) (.int .u8 q):Sem Value).run P w=.ok (.bool true) w:=by
 go_simp
theorem slrf_lit {w:World} {v:Value} {a b:RefV} (h:SlRf w v [a,b]):∃ g o c,v=.slice (some ⟨g,o,none⟩) 2 c∧g < w.heap.size∧w.rangeAt g (o+1*34) (refL b):=by
 obtain ⟨aa,c,rfl⟩:=h.hd
 obtain ⟨g,o,e,hl,hr⟩:=slrf_at (n:=2) (i:=1) h rfl (by decide)
 exact ⟨g,o,c,by rw [e];rfl,hl,hr⟩
theorem alive14_any (T:TreeP) (w:World) (hT:TT w):Calls Tryz.prog 5 #[] w (fun e w'=>e=.returned (.bool true)∧Below w.heap.size w w'):=by
 have hlit:Sl (w.alloc (.cells #[.int .u8 7] 5)) (.slice (some ⟨w.heap.size,0,none⟩) 1 1) [7]:=at_sl (at_new w #[.int .u8 7] 5) rfl
 have hsl:=sls_lit1 hlit
 rw [show (w.alloc (.cells #[.int .u8 7] 5)).heap.size=w.heap.size+1 by simp] at hsl
 have b2:Below w.heap.size w ((w.alloc (.cells #[.int .u8 7] 5)).alloc (.cells #[.slice (some ⟨w.heap.size,0,none⟩) 1 1] 40)):=((Below.refl _ _).alloc (Nat.le_refl _) _).alloc (by simp) _
 have hpg:=fun v wx h=>pages_any [[7]] v wx h (by decide)
 have hpl:=pageL_length [7]
 have hp0:(pageL [7])[0]?=some 7:=rfl
 have hsz:=img_t (key:=K1) (ep:=3) (P:=P14)
 have hok:=(img_ok (key:=K1) (ep:=3) goodP14).mono (m':=1000) (by decide)
 have hiw:(stImg K1 3 P14).w=[]:=rfl
 have hld:∀ v wx,TT wx→Sls wx v ([[7]].map pageL)→Calls Tryz.prog 6 #[.pointer none,.agg (u8s K1).toArray,.int .u32 3,v] wx (fun e w'=>∃ b F,e=.returned (.tuple #[rq b,.agg (psC 1),.agg (refC (refT K1 3 P14 1)),.bool true])∧PSt F b w' (stImg K1 3 P14)∧(∀ k,F k→wx.heap.size≤k)∧Below wx.heap.size wx w'):=fun v wx h hs=>laid_any T K1 3 P14 v wx h rfl goodP14 hs
 have hwy:∀ (F:Foot) (b:Nat) wx,TT wx→PSt F b wx (stImg K1 3 P14)→Calls Tryz.prog 15 #[.pointer none,rq b,.agg (u8s K1).toArray,.agg (psC 1),.agg (refC (refT K1 3 P14 1)),.int .i64 0] wx (fun e w'=>∃ vr vp,e=.returned (.tuple #[vr,vp,.int .i64 0])∧SlRf w' vr [refT K1 3 P14 0,refT K1 3 P14 1]∧Sl w' vp (pageL [7])∧Below wx.heap.size wx w'):=fun F b wx h hp=>by
  have h2:=T.way (s:=stImg K1 3 P14) K1 1 (refT K1 3 P14 1) 0 wx h rfl hp hok hiw (by decide) (by decide) (refT_wf _)
  rw [way14] at h2
  exact h2
 have hrw:(refT K1 3 P14 1).Wf:=refT_wf _
 obtain ⟨root,hroot⟩:∃ r,r=refT K1 3 P14 1:=⟨_,rfl⟩
 obtain ⟨r0,hr0⟩:∃ r,r=refT K1 3 P14 0:=⟨_,rfl⟩
 obtain ⟨I,hI⟩:∃ I,I=stImg K1 3 P14:=⟨_,rfl⟩
 have htr:∀ (F:Foot) (b:Nat) wx,PSt F b wx I→Calls Tryz.prog 20 #[rq b] wx fun e w'=>∃ v,e=.returned v∧w'.ownsRow wx.heap.size 3 1 v 3 (i64s I.t)∧Below wx.heap.size wx w':=fun F b wx hp=>by
  have e3:I.t.length=3:=by rw [hI,hsz];decide
  have h:=ptrace_any wx hp (by rw [hI];exact hok.n1) (by rw [hI];exact hok.n2) (by omega)
  rw [e3] at h
  exact h
 rw [←hroot] at hld hwy hrw
 rw [←hr0] at hwy
 rw [←hI] at hld hwy
 have eqr:=eqlRP hrw hrw
 rw [sameRef_self] at eqr
 have rs:=refC_size hrw;have ro:=refC_one root
 obtain ⟨M,hM⟩:∃ M,M=refC root:=⟨_,rfl⟩
 have hrl:refL root=M.toList:=by rw [hM];rfl
 obtain ⟨Z,hZ⟩:∃ Z,Z=refC zref:=⟨_,rfl⟩
 have zs:Z.size=34:=by rw [hZ];exact refC_size zref_wf
 obtain ⟨C,hC⟩:∃ C,C=psC 1:=⟨_,rfl⟩
 obtain ⟨Y,hYs⟩:∃ C,C=psC 0:=⟨_,rfl⟩
 have cs:C.size=1:=by rw [hC];rfl
 have co:C.all (·.oneCell')=true:=by rw [hC];exact psC_one 1
 have ys:Y.size=1:=by rw [hYs];rfl
 have hx:=zeroPS
 have hxr:=zeroRfP
 have bk:=build_K1
 obtain ⟨KC,hKC⟩:∃ K,K=(u8s K1).toArray:=⟨_,rfl⟩
 obtain ⟨PG,hPG⟩:∃ p,p=pageL [7]:=⟨_,rfl⟩
 rw [←hYs] at hx
 rw [←hZ] at hxr
 rw [←hM] at hld hwy rs ro eqr
 rw [←hC] at hld hwy
 rw [←hKC] at hld hwy bk
 rw [←hPG] at hwy hpl hp0
 have HS:=zh hsl;have B2:=zh b2;have PGS:=zh hpg;have LD:=zh hld;have WY:=zh hwy;have TR:=zh htr;have EQR:=zh eqr;have RS:=zh rs;have RO:=zh ro;have RL:=zh hrl;have ZS:=zh zs;have CS:=zh cs;have CO:=zh co;have YS:=zh ys;have BKK:=zh bk;have PL:=zh hpl;have P0:=zh hp0;have HT:=zh hT
 clear hlit hsl b2 hpg hld hwy htr eqr rs ro hrl zs cs co ys bk hpl hp0 hT hsz hok hiw hrw hI hroot hr0 hM hZ hC hYs hKC hPG
 go_enter Tryz.func5,Tryz.ntmps5
 go_wp2_with (refine Mem.wpList_build zr 26 _ #[(0,.int .u8 1)] (.agg KC) zr (by simp [Act.eval]) BKK.out ?_)
 refine (PGS.out _ _ HS.out).mono ?_
 rintro e w3 ⟨vp,rfl,hs3,hb3⟩
 have S3:=zh hs3;have B3:Hid (Below w.heap.size w w3):=zh (B2.out.trans (hb3.mono B2.out.size))
 have T3:Hid (TT w3):=zh (HT.out.below B3.out)
 clear hs3 hb3
 go_wp2_with fail
 refine (LD.out _ _ T3.out S3.out).mono ?_
 rintro e w4 ⟨b,F,rfl,hp4,hF4,hb4⟩
 have P4:=zh hp4;have B4:Hid (Below w.heap.size w w4):=zh (B3.out.trans (hb4.mono B3.out.size))
 have FL:Hid (∀ k,F k→k < w4.heap.size):=zh (pst_lt hp4)
 clear hp4 hF4 hb4
 have AY:Hid (At ((w4.alloc (.cells Y 29)).alloc (.cells Z 32)) w4.heap.size Y 29):=zh ((at_new w4 Y _).alloc _)
 have AZ:Hid (At ((w4.alloc (.cells Y 29)).alloc (.cells Z 32)) (w4.heap.size+1) Z 32):=zh (by
  have h:=at_new (w4.alloc (.cells Y 29)) Z 32
  simpa using h)
 have B5:Hid (Below w4.heap.size w4 ((w4.alloc (.cells Y 29)).alloc (.cells Z 32))):=zh (((Below.refl _ _).alloc (Nat.le_refl _) _).alloc (by simp) _)
 go_upto_region 2 with (first
  | (refine wpList_store_all zr 29 _ _ zr zr w4.heap.size C zr zr (by rw [CS.out];exact infoPS) Y 29 AY.out (by rw [CS.out,YS.out]) CO.out ?_)
  | (refine wpList_store_all zr 32 _ _ zr zr (w4.heap.size+1) M zr zr (by rw [RS.out];exact infoRfP) Z 32 (AZ.out.row_other C (by omega)) (by rw [RS.out,ZS.out]) RO.out ?_))
 clear hx hxr
 have C6:Hid (At ((((w4.alloc (.cells Y 29)).alloc (.cells Z 32)).setRow w4.heap.size C).setRow (w4.heap.size+1) M) w4.heap.size C 29):=zh ((AY.out.row C).row_other M (by omega))
 have M6:Hid (At ((((w4.alloc (.cells Y 29)).alloc (.cells Z 32)).setRow w4.heap.size C).setRow (w4.heap.size+1) M) (w4.heap.size+1) M 32):=zh ((AZ.out.row_other C (by omega)).row M)
 have D6:Hid (Below w4.heap.size w4 ((((w4.alloc (.cells Y 29)).alloc (.cells Z 32)).setRow w4.heap.size C).setRow (w4.heap.size+1) M)):=zh (below_row (below_row B5.out (Nat.le_refl _) _) (by omega) _)
 have P6:=zh (pst_below P4.out D6.out)
 have B6:=zh (B4.out.trans (D6.out.mono B4.out.size))
 clear AY AZ B5 D6
 obtain ⟨s4,hs4⟩:∃ s,s=w4.heap.size:=⟨_,rfl⟩
 rw [←hs4] at C6 M6 P6 B6 ⊢
 clear hs4
 generalize (((w4.alloc (.cells Y 29)).alloc (.cells Z 32)).setRow s4 C).setRow (s4+1) M=w6 at *
 go_wp2_with (first
  | (refine Mem.wpList_build zr 26 _ #[(0,.int .u8 1)] (.agg KC) zr (by simp [Act.eval]) BKK.out ?_)
  | (refine wpList_load_all zr 29 _ zr s4 zr _ Tryz.underlying29 zr C _ C6.out (by rw [CS.out];exact infoPS) ?_)
  | (refine wpList_load_all zr 32 _ zr (s4+1) zr _ Tryz.underlying32 zr M _ M6.out (by rw [RS.out];exact infoRfP) ?_))
 refine (WY.out F b _ (HT.out.below B6.out) P6.out).mono ?_
 rintro e w7 ⟨vr,vq,rfl,hr7,hq7,hb7⟩
 obtain ⟨gr,orf,cr,rfl,hgl,hgr⟩:=slrf_lit hr7
 obtain ⟨gp,op_,cp,rfl,_,hpl7,hcell⟩:=sl_some hq7 (by rw [PL.out];decide)
 have hc0:=hcell 0 (by rw [PL.out];decide)
 have RG:Hid (w7.rangeAt gr (orf+1*34) M.toList):=zh (by rw [←RL.out];exact hgr)
 have RL7:=zh hgl;have PLT:=zh hpl7
 have CP:Hid (w7.cell? ⟨gp,op_+0,none⟩=some (.int .u8 7)):=zh (by
  rw [hc0,List.getD_eq_getElem?_getD,P0.out];rfl)
 have P7:=zh (pst_below P6.out hb7);have B7:Hid (Below w.heap.size w w7):=zh (B6.out.trans (hb7.mono B6.out.size))
 have M7:=zh (M6.out.below hb7 M6.out.lt)
 rw [PL.out]
 clear hr7 hq7 hb7 hgl hgr hcell hc0 hpl7 C6 M6 P6 B6
 go_upto_region 5 with fail
 have D0:Hid (Below w7.heap.size w7 w7.drew):=zh (Below.refl _ _).drew
 refine wp_region_plan_in (fun x'=>Below w7.heap.size w7 x') (.take 0 (.take 1 (.take 2 (.take 3 (.take 4 (.take 5 (.take 6 (.take 7 (.take 8 (.take 9 (.take 10 (.take 11 (.take 12 (.take 13 (.take 14 (.take 15 (.take 16 (.take 17 (.take 18 (.take 19 (.take 20 (.take 21 (.take 22 (.take 23 (.take 24 (.take 25 (.take 26 (.sole 27 (.take 28 (.take 29 (.take 30 (.take 31 .done)))))))))))))))))))))))))))))))) (by kernel_rfl) (by kernel_rfl) (by kernel_rfl) D0.out ?_
 (first | refine Mem.pm1 ?_ | refine Mem.pm2 ?_ | refine Mem.pt ?_ | refine Mem.pf ?_)
 (simp only [Mem.zp,Mem.pb,Mem.pc])
 refine plan_bin _ _ _ _ _ _ _ (.bool true) zr zr zr ze ze (fun wx=>o_ieq _ _ _ _ _ wx) ?_
 (simp only [Mem.zp,Mem.pb,Mem.pc])
 iterate 2 ((first | refine Mem.pm1 ?_ | refine Mem.pm2 ?_ | refine Mem.pt ?_ | refine Mem.pf ?_);(simp only [Mem.zp,Mem.pb,Mem.pc]))
 refine plan_len _ _ _ _ 2 _ zr zr zr zr ze (fun wx=>by go_simp) ?_
 (simp only [Mem.zp,Mem.pb,Mem.pc])
 refine plan_bin _ _ _ _ _ (.int .i64 ((2:Nat):Int)) (.int .i64 2) (.bool true) zr zr zr ze ze (fun wx=>o_ieq 2 _ _ _ _ wx) ?_
 (simp only [Mem.zp,Mem.pb,Mem.pc])
 iterate 3 ((first | refine Mem.pm1 ?_ | refine Mem.pm2 ?_ | refine Mem.pt ?_ | refine Mem.pf ?_);(simp only [Mem.zp,Mem.pb,Mem.pc]))
 refine plan_index_z 51 32 _ _ gr orf 2 cr 34 1 zr zr zr ze zr (by decide) Tryz.underlying51 infoRfP ?_
 (simp only [Mem.zp,Mem.pb,Mem.pc])
 refine plan_load_range 32 _ gr (orf+1*34) _ M zr zr zr ze (fun w' hw'=>range_block RG.out (hw'.block gr RL7.out)) Tryz.underlying32 zr (by rw [RS.out];exact infoRfP) ?_
 (simp only [Mem.zp,Mem.pb,Mem.pc])
 refine plan_row 32 _ (s4+1) _ M 32 zr zr zr ze (fun w' hw'=>M7.out.below hw' M7.out.lt) Tryz.underlying32 zr (by rw [RS.out];exact infoRfP) ?_
 (simp only [Mem.zp,Mem.pb,Mem.pc])
 refine plan_bin _ _ _ _ _ _ _ (.bool true) zr zr zr ze ze (fun wx=>EQR.out _ _ wx) ?_
 (simp only [Mem.zp,Mem.pb,Mem.pc])
 iterate 3 ((first | refine Mem.pm1 ?_ | refine Mem.pm2 ?_ | refine Mem.pt ?_ | refine Mem.pf ?_);(simp only [Mem.zp,Mem.pb,Mem.pc]))
 refine plan_len _ _ _ _ 256 _ zr zr zr zr ze (fun wx=>by go_simp) ?_
 (simp only [Mem.zp,Mem.pb,Mem.pc])
 refine plan_bin _ _ _ _ _ (.int .i64 ((256:Nat):Int)) (.int .i64 256) (.bool true) zr zr zr ze ze (fun wx=>o_ieq 256 _ _ _ _ wx) ?_
 (simp only [Mem.zp,Mem.pb,Mem.pc])
 iterate 3 ((first | refine Mem.pm1 ?_ | refine Mem.pm2 ?_ | refine Mem.pt ?_ | refine Mem.pf ?_);(simp only [Mem.zp,Mem.pb,Mem.pc]))
 refine plan_index 40 5 _ _ gp op_ 256 cp 0 zr zr zr ze zr (by decide) Tryz.underlying40 infoB ?_
 (simp only [Mem.zp,Mem.pb,Mem.pc])
 refine plan_cell 5 _ _ (.int .u8 7) _ zr zr zr ze (fun w' hw'=>(hw'.cell (p:=⟨gp,op_+0,none⟩) PLT.out).trans CP.out) Tryz.underlying5 zr ?_
 (simp only [Mem.zp,Mem.pb,Mem.pc])
 refine plan_bin _ _ _ _ _ _ _ (.bool true) zr zr zr ze ze (fun wx=>o_beq8 _ _ _ _ _ wx) ?_
 (simp only [Mem.zp,Mem.pb,Mem.pc])
 iterate 3 ((first | refine Mem.pm1 ?_ | refine Mem.pm2 ?_ | refine Mem.pt ?_ | refine Mem.pf ?_);(simp only [Mem.zp,Mem.pb,Mem.pc]))
 refine plan_call 20 _ _ _ (by kernel_rfl) zr zr zr (by first | exact Mem.ev_none _ | (simp only [List.map_toArray,List.map_cons,List.map_nil,Mem.ev_tmp,List.getD_cons_succ,List.getD_cons_zero] <;> rfl)) ?_
 refine (TR.out F b w7.drew (pst_below P7.out (Below.refl _ _).drew)).mono ?_
 rintro e w8 ⟨vt,rfl,hot,hb8⟩
 obtain ⟨at8,ct8,rfl⟩:=rows_hd hot
 have B8:Hid (Below w.heap.size w w8):=zh (B7.out.drew.trans (hb8.mono B7.out.drew.size))
 have D8:Hid (Below w7.heap.size w7 w8):=zh ((Below.refl _ _).drew.trans hb8)
 clear hot hb8
 refine ⟨_,rfl,D8.out,?_⟩
 (simp only [Mem.zp,Mem.pb,Mem.pc])
 refine plan_len _ _ _ _ 3 _ zr zr zr zr ze (fun wx=>by go_simp) ?_
 (simp only [Mem.zp,Mem.pb,Mem.pc])
 refine plan_bin _ _ _ _ _ (.int .i64 ((3:Nat):Int)) (.int .i64 3) (.bool true) zr zr zr ze ze (fun wx=>o_ieq 3 _ _ _ _ wx) ?_
 (simp only [Mem.zp,Mem.pb,Mem.pc])
 (first | refine Mem.pm1 ?_ | refine Mem.pm2 ?_ | refine Mem.pt ?_ | refine Mem.pf ?_)
 (simp only [Mem.zp,Mem.pb,Mem.pc])
 (first | refine Mem.pm1 ?_ | refine Mem.pm2 ?_ | refine Mem.pt ?_ | refine Mem.pf ?_)
 (simp only [Act.put,List.setIfInBounds_toArray,List.set_cons_zero])
 refine plan_nil ?_
 go_wp2_with fail
 go_ret
 exact ⟨rfl,B8.out⟩
def ptRow (q:Nat) (v:Value):Array Value:=#[.int .i64 (q:Int),v]
theorem ptRow_one (q:Nat) (a:Option Addr) (n c:Nat):(ptRow q (.slice a n c)).all (·.oneCell')=true:=by simp [ptRow,Value.oneCell']
theorem infoPt14:(Tryz.prog.info? 100).map (·.size)=some 2:=by kernel_rfl
theorem lput_at {G:Foot} {w:World} {a:Option Addr} {cap n:Nat} {l:List (Nat × Lb8)} (h:WPut G w (.slice a n cap) l) {j:Nat} (hj:j < l.length) :
 ∃ b o vh,a=some ⟨b,o,none⟩∧G b∧w.cell? ⟨b,o+j*2,none⟩=some (.int .i64 (((l.getD j (0,[])).1:Nat):Int))∧w.cell? ⟨b,o+j*2+1,none⟩=some vh∧SlB G w vh (l.getD j (0,[])).2:=by
 obtain ⟨ws,he,hl,a',cap',e,hc,hr⟩:=h
 injection e with e1 e2 _
 obtain ⟨b,o,ea,hG,_,hcell⟩:=hr (by omega)
 obtain ⟨p,hp,hp1,hp2⟩:=he.at (List.getElem?_eq_getElem hj)
 have h2:=putC_at ws j p hp
 have hd:l.getD j (0,[])=l[j]:=by rw [List.getD_eq_getElem?_getD,List.getElem?_eq_getElem hj];rfl
 refine ⟨b,o,p.2,by rw [e1];exact ea,hG,?_,?_,by rw [hd];exact hp2⟩
 ·rw [hd,←hp1,Nat.mul_comm];exact hcell _ _ h2.1
 ·have:=hcell _ _ h2.2
  rw [Nat.add_assoc,Nat.mul_comm];exact this
theorem plays14_any {F G:Foot} {b:Nat} {s:St6} (L:List (Nat × Lb8)) (v:Value) (w:World) (hp:PSt F b w s) (hok:Ok6 500 s) (hv:WPut G w v L) (hG:∀ k,G k→¬ F k) (hn:L.length≤400) (hL:∀ q∈L,q.1 < s.n∧q.2.length=256) :
 Calls Tryz.prog 24 #[rq b,v] w fun e w'=>e=.returned (.int .i64 0)∧StEnd PSt F b w (layS s L) w':=by
 obtain ⟨av,cv,rfl⟩:=hv.hd
 have hq:∀ j,j < L.length→(L.getD j (0,[])).1 < s.n∧(L.getD j (0,[])).2.length=256:=fun j hj=>by
  rw [List.getD_eq_getElem?_getD,List.getElem?_eq_getElem hj]
  exact hL _ (List.getElem_mem hj)
 have hok2:∀ j,j≤L.length→Ok6 1000 (layS s (L.take j)):=fun j hj=>(ok_lay hok (L.take j) fun q h=>hL q (List.mem_of_mem_take h)).mono (by rw [List.length_take];omega)
 have hst:∀ j,j < L.length→layS s (L.take (j+1))=dvWrite (layS s (L.take j)) (L.getD j (0,[])).1 (L.getD j (0,[])).2:=fun j hj=>by
  rw [List.take_add_one,List.getElem?_eq_getElem hj,List.getD_eq_getElem?_getD,List.getElem?_eq_getElem hj]
  exact layS_snoc _ _ _
 have hsn:∀ j,(layS s (L.take j)).n=s.n:=fun _=>rfl
 have hend:layS s (L.take L.length)=layS s L:=by rw [List.take_length]
 have h0:layS s (L.take 0)=s:=by rw [List.take_zero,layS_nil]
 have hlt:=pst_lt hp
 obtain ⟨n,hnn⟩:∃ n,n=L.length:=⟨_,rfl⟩
 rw [←hnn] at hv hn hq hok2 hst hend ⊢
 have HV:=zh hv;have HN:=zh hnn;have HQ:=zh hq;have OK2:=zh hok2;have ST:=zh hst;have SN:=zh hsn;have EN:=zh hend;have H0:=zh h0;have HP:=zh hp;have HG:=zh hG;have FL:=zh hlt
 clear hv hnn hq hok2 hst hsn hend h0 hp hG hL hok hlt
 go_enter Tryz.func24,Tryz.ntmps24
 go_wp2_with fail
 go_loopw [10] (fun vi wr=>∃ j:Nat,j≤n∧vi=.int .i64 (j:Int)∧∃ F',PSt F' b wr (layS s (L.take j))∧(∀ k,F' k→F k∨w.heap.size≤k)∧Chg F w wr∧WPut G wr (.slice av n cv) L∧∀ k,G k→k < w.heap.size→¬ F' k) (fun vi _=>n - (intOf vi).toNat)
 case atStart=>exact ⟨0,by omega,rfl,F,by rw [H0.out];exact HP.out,fun k h=>.inl h,Chg.refl _ _,HV.out,fun k h _=>HG.out k h⟩
 case round=>
  obtain ⟨j,hj,rfl,F',hp',hF',hc',hv',hg'⟩:=hrel
  by_cases hlt:j < n
  ·have hlt':(j:Int) < (n:Int):=by omega
   obtain ⟨q1,q2⟩:=HQ.out j hlt
   obtain ⟨b1,o1,vh,e1,hGb,cn0,ch0,hsh0⟩:=lput_at hv' (j:=j) (by rw [←HN.out];exact hlt)
   have hs1:=ST.out j hlt
   obtain ⟨x,hx⟩:∃ x,x=(L.getD j (0,[])).2:=⟨_,rfl⟩
   obtain ⟨q,hq⟩:∃ q,q=(L.getD j (0,[])).1:=⟨_,rfl⟩
   have cn:wr.cell? ⟨b1,o1+j*2,none⟩=some (.int .i64 (q:Int)):=by rw [hq];exact cn0
   have hsh:SlB G wr vh x:=by rw [hx];exact hsh0
   clear cn0 hsh0
   rw [←hx] at q2 hs1
   rw [←hq] at q1 hs1
   obtain ⟨a3,cap3,rfl⟩:=hsh.hd
   rw [q2] at ch0
   have ch:wr.cell? ⟨b1,o1+j*2+1,none⟩=some (.slice a3 256 cap3):=ch0
   have b3:Below wr.heap.size wr (wr.alloc (.cells (ptRow q (.slice a3 256 cap3)) 100)):=(Below.refl _ _).alloc (Nat.le_refl _) _
   have A3:=zh (at_new wr (ptRow q (.slice a3 256 cap3)) 100)
   have P3:=zh (pst_below hp' b3)
   have V3:=zh (WPut.keep hv' b3.size fun k _ hlt=>b3.block k hlt)
   have S3:Hid (Sl (wr.alloc (.cells (ptRow q (.slice a3 256 cap3)) 100)) (.slice a3 256 cap3) x):=by have h:=hsh.sl.below b3;rw [q2] at h;exact h
   have C3:=zh (hc'.trans (F1:=fun _=>False) (Chg.of_below b3) fun _ h=>h.elim)
   have S1:=zh hs1;have Q1:=zh q1;have Q2:=zh q2;have HF:=zh hF';have HG2:=zh hg'
   subst e1
   clear hp' hc' hv' hsh hs1 q1 q2 hF' hg' hx hq b3 ch0 hGb
   go_upto_region 4 with (refine wpList_store_new zr 100 _ _ zr zr (ptRow q (.slice a3 256 cap3)) _ _ zr zr (by exact infoPt14) zr (ptRow_one _ _ _ _) ?_)
   clear cn ch
   obtain ⟨bx,hbx⟩:∃ bx,bx=wr.heap.size:=⟨_,rfl⟩
   rw [←hbx] at A3 ⊢
   clear hbx
   generalize wr.alloc (.cells (ptRow q (.slice a3 256 cap3)) 100)=w3 at *
   have c0:w3.cell? ⟨bx,0,none⟩=some (.int .i64 (q:Int)):=(A3.out.cell 0).trans rfl
   have c1:w3.cell? ⟨bx,1,none⟩=some (.slice a3 256 cap3):=(A3.out.cell 1).trans rfl
   go_wp2_with fail
   refine (pwrite_good q x _ w3 P3.out (OK2.out j (by omega)) S3.out (by rw [SN.out];exact Q1.out) Q2.out).mono ?_
   rintro o w4 ⟨rfl,⟨F4,hp4,hF4⟩,hc4⟩
   have P4:Hid (PSt F4 b w4 (layS s (L.take (j+1)))):=zh (by rw [S1.out];exact hp4)
   have C4:=zh (C3.out.trans hc4 HF.out)
   have F4':Hid (∀ k,F4 k→F k∨w.heap.size≤k):=zh fun k hk=>by
    rcases hF4 k hk with h | h
    ·exact HF.out k h
    ·have:=C3.out.size;exact .inr (by omega)
   have G4:Hid (∀ k,G k→k < w.heap.size→¬ F4 k):=zh fun k hg hl hk=>by
    rcases hF4 k hk with h | h
    ·exact HG2.out k hg hl h
    ·have:=C3.out.size;omega
   have V4:=zh (WPut.keep HV.out C4.out.size fun k hg hl=>C4.out.block k hl (HG.out k hg))
   clear hp4 hF4 hc4 c0 c1
   go_wp2_with fail
   go_roundw
   case rel=>exact ⟨j+1,by omega,by go_num,F4,P4.out,F4'.out,C4.out,V4.out,G4.out⟩
   case measure=>simp [intOf];omega
  ·have hge:¬ (j:Int) < (n:Int):=by omega
   have hjm:j=n:=by omega
   subst hjm
   rw [EN.out] at hp'
   have PE:=zh hp';have FE:=zh hF';have CE:=zh hc'
   clear hp' hF' hc' hv' hg' hlt
   go_wp2_with fail
   go_ret
   exact ⟨rfl,⟨F',PE.out,FE.out⟩,CE.out⟩
end Sha
end Go.Proofs.YtddjdaocdfkgeaaGreatDoor
