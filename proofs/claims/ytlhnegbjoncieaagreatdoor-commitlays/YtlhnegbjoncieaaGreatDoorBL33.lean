/- My own texts, merged. -/
import Derived.Test.YtlhnegbjoncieaaGreatDoorBL07
import Derived.Test.YtlhnegbjoncieaaGreatDoorBL31
import Derived.Test.YtlhnegbjoncieaaGreatDoorBL12
import Derived.Test.YtlhnegbjoncieaaGreatDoorBL09
import Derived.Test.YtlhnegbjoncieaaGreatDoorBL04
import Derived.Great.Walk
import Derived.OwnWalk
import Derived.Deep.DeepCutAuto
import Derived.Test.YtlhnegbjoncieaaGreatDoorBL16
import Derived.Lib.SlBytesConst
import Derived.Test.YtlhnegbjoncieaaGreatDoorBL28
import Derived.Test.YtlhnegbjoncieaaGreatDoorBL05
import Derived.Test.YtlhnegbjoncieaaGreatDoorBL13
import Derived.Test.YtlhnegbjoncieaaGreatDoorBL08
import Derived.Test.YtlhnegbjoncieaaGreatDoorBL24
import Derived.Test.YtlhnegbjoncieaaGreatDoorBL27
import Derived.Test.YtlhnegbjoncieaaGreatDoorBL20
import Derived.Test.YtlhnegbjoncieaaGreatDoorBL14
set_option maxRecDepth 100000
set_option maxHeartbeats 4000000
namespace Go.Proofs.YtlhnegbjoncieaaGreatDoor
namespace Sha
open Go.RowKit Mem
theorem sls_at {w:World} {a:Option Addr} {n cap:Nat} {ps:List (Lb8)} (h:Sls w (.slice a n cap) ps) {i:Nat} (hi:i < ps.length) :
 ∃ pb po vi,a=some ⟨pb,po,none⟩∧pb < w.heap.size∧w.cell? ⟨pb,po+i,none⟩=some vi∧Sl w vi (ps.getD i []):=by
 obtain ⟨a',cap',e,_,hr⟩:=h
 injection e with e1 _ _
 obtain ⟨pb,po,ea,hlt,hc⟩:=hr (by intro e;rw [e] at hi;simp at hi)
 obtain ⟨vi,h1,h2⟩:=hc i hi
 exact ⟨pb,po,vi,by rw [e1];exact ea,hlt,h1,h2⟩
def pageL (l:Lb8):Lb8:=l.take 256++List.replicate (256 - l.length) 0
theorem pageL_length (l:Lb8):(pageL l).length=256:=by simp [pageL];omega
theorem splice_page (l:Lb8) (k:Nat) (hk:k=Nat.min l.length 256):Mem.splice (u8s (List.replicate 256 0)).toArray 0 (u8s (l.take k))=(u8s (pageL l)).toArray:=by
 have hk':k=min l.length 256:=hk
 have e1:l.take k=l.take 256:=by
  rw [hk']
  rcases Nat.le_total l.length 256 with h | h
  ·rw [Nat.min_eq_left h,List.take_of_length_le (Nat.le_refl _),List.take_of_length_le h]
  ·rw [Nat.min_eq_right h]
 have e2:(l.take 256).length=k:=by rw [List.length_take,hk',Nat.min_comm]
 have e3:(u8s (List.replicate 256 (0:BitVec 8))).drop k=u8s (List.replicate (256 - l.length) 0):=by
  unfold u8s
  rw [←List.map_drop,List.drop_replicate,show 256 - k=256 - l.length by omega]
 unfold Mem.splice pageL
 rw [e1,List.take_zero,List.nil_append,u8s_length,e2,Nat.zero_add]
 show (u8s (l.take 256)++(u8s (List.replicate 256 (0:BitVec 8))).drop k).toArray=_
 rw [e3]
 unfold u8s
 rw [List.map_append]
def K1:Lb8:=1::List.replicate 31 0
theorem notBad (block:Int) (l:Lb8) (h:l.length=256) (hb:0≤block):sealBad block l=false:=by
 have h1:¬ block < 0:=by omega
 simp [sealBad,h,h1]
theorem hideR_good (key:Lb8) (ep:BitVec 32) (place block:Int) (page:Lb8) (h:page.length=256) (hb:0≤block) (h0:0≤place) (h1:place≤1):hideR key ep place block page=(sealL key ep block page,⟨place,ep,digestOf (sealL key ep block page)⟩,0):=by
 have g:¬ (place < 0∨1 < place):=by omega
 unfold hideR
 rw [notBad block page h hb,Bool.false_or,if_neg (by simpa using g)]
theorem openR_good (key:Lb8) (r:RefV) (block:Int) (x:Lb8) (h:x.length=256) (hb:0≤block) (hd:digestOf x=r.dg):openR key r block x=(sealL key r.ep block x,0):=by
 unfold openR
 rw [notBad block x h hb,if_neg (by decide),if_neg (fun hn=>hn hd)]
end Sha
end Go.Proofs.YtlhnegbjoncieaaGreatDoor
namespace Go.Proofs.YtlhnegbjoncieaaGreatDoor
namespace Sha
open Go.RowKit Mem
def kidR (p:Nat) (R:List RefV) (i:Nat):List RefV:=(R.drop (fst p i)).take (many p i)
def pageI (P:List (Lb8)) (R:List RefV) (i:Nat):Lb8:=if i < P.length then P.getD i [] else (layN (kidR P.length R i)).1
def hidI (key:Lb8) (ep:BitVec 32) (P:List (Lb8)) (R:List RefV) (i:Nat):Lb8 × RefV × Int:=hideR key ep 0 (2+2*(i:Int)) (pageI P R i)
def itemsT (key:Lb8) (ep:BitVec 32) (P:List (Lb8)):Nat→List (Lb8 × RefV)
 | 0=>[]
 | i+1=>itemsT key ep P i++[((hidI key ep P ((itemsT key ep P i).map (·.2)) i).1,(hidI key ep P ((itemsT key ep P i).map (·.2)) i).2.1)]
def refsT (key:Lb8) (ep:BitVec 32) (P:List (Lb8)) (n:Nat):List RefV:=(itemsT key ep P n).map (·.2)
def selT (key:Lb8) (ep:BitVec 32) (P:List (Lb8)) (i:Nat):Lb8:=(hidI key ep P (refsT key ep P i) i).1
def refT (key:Lb8) (ep:BitVec 32) (P:List (Lb8)) (i:Nat):RefV:=(hidI key ep P (refsT key ep P i) i).2.1
def pgT (key:Lb8) (ep:BitVec 32) (P:List (Lb8)) (i:Nat):Lb8:=pageI P (refsT key ep P i) i
structure GoodP (P:List (Lb8)):Prop where
 p0:1≤P.length
 p1:P.length≤216
 len:∀ x∈P,x.length=256
section
variable (key:Lb8) (ep:BitVec 32) (P:List (Lb8))
theorem itemsT_length (n:Nat):(itemsT key ep P n).length=n:=by
 induction n with
 | zero=>rfl
 | succ n ih=>rw [itemsT,List.length_append,ih];rfl
theorem refsT_length (n:Nat):(refsT key ep P n).length=n:=by rw [refsT,List.length_map,itemsT_length]
theorem refsT_succ (n:Nat):refsT key ep P (n+1)=refsT key ep P n++[refT key ep P n]:=by
 rw [refsT,itemsT,List.map_append];rfl
theorem refsT_get:∀ (n i:Nat),i < n→(refsT key ep P n).getD i zref=refT key ep P i:=by
 intro n
 induction n with
 | zero=>intro i hi;omega
 | succ n ih=>
  intro i hi
  rw [refsT_succ]
  by_cases h:i < n
  ·rw [List.getD_eq_getElem?_getD,List.getElem?_append_left (by rw [refsT_length];exact h),←List.getD_eq_getElem?_getD]
   exact ih i h
  ·have e:i=n:=by omega
   subst e
   rw [List.getD_eq_getElem?_getD,List.getElem?_append_right (by rw [refsT_length];exact Nat.le_refl _),refsT_length,Nat.sub_self]
   rfl
theorem refsT_list (n:Nat):refsT key ep P n=(List.range n).map (refT key ep P):=by
 induction n with
 | zero=>rfl
 | succ n ih=>rw [refsT_succ,ih,List.range_succ,List.map_append];rfl
theorem kidR_length (p:Nat) (R:List RefV) (i:Nat) (h:fst p i+many p i≤R.length):(kidR p R i).length=many p i:=by
 unfold kidR
 rw [List.length_take,List.length_drop]
 omega
theorem kidR_get (p:Nat) (R:List RefV) (i t:Nat) (ht:t < many p i):(kidR p R i).getD t zref=R.getD (fst p i+t) zref:=by
 unfold kidR
 rw [List.getD_eq_getElem?_getD,List.getElem?_take,if_pos ht,List.getElem?_drop,←List.getD_eq_getElem?_getD]
end
theorem node_kids (p i:Nat) (h0:1≤p) (h1:p≤216) (hi:p≤i) (hit:i < itn p):1≤many p i∧fst p i+many p i≤i:=by
 have hl:=lv_of p h0 h1
 have hk:=fun j=>kids_cond p i j h0 h1 hi hit
 have h6:=many_le p i
 constructor
 ·have h2:=lev_lo p i
  have h3:=lev_hi p i (Nat.lt_of_lt_of_le hit (itn_le p))
  have hge:1≤lev p i:=by
   rcases Nat.eq_zero_or_pos (lev p i) with a | a
   ·rw [a,Nat.zero_add] at h3
    have:stn p 1=p:=rfl
    omega
   ·exact a
  have hle:=lev_le p i
  unfold many fst
  obtain ⟨k,hk⟩:∃ k,lev p i=k+1:=⟨lev p i - 1,by omega⟩
  rw [hk] at h2 h3 ⊢
  have e1:=stn_lvn p k (by omega)
  have e2:=stn_lvn p (k+1) (by omega)
  have e3:=lvn_cnt p k (by omega)
  have e4:=cnt_le (lvn p k)
  rw [Nat.add_sub_cancel]
  omega
 ·rcases Nat.eq_zero_or_pos (many p i) with a | a
  ·have h2:=lev_lo p i
   have h3:=lev_hi p i (Nat.lt_of_lt_of_le hit (itn_le p))
   exfalso
   have hge:1≤lev p i:=by
    rcases Nat.eq_zero_or_pos (lev p i) with b | b
    ·rw [b,Nat.zero_add] at h3
     have:stn p 1=p:=rfl
     omega
    ·exact b
   have hle:=lev_le p i
   unfold many fst at a
   obtain ⟨k,hk⟩:∃ k,lev p i=k+1:=⟨lev p i - 1,by omega⟩
   rw [hk] at h2 h3 a
   have e1:=stn_lvn p k (by omega)
   have e2:=stn_lvn p (k+1) (by omega)
   have e3:=lvn_cnt p k (by omega)
   have e4:=cnt_le (lvn p k)
   rw [Nat.add_sub_cancel] at a
   omega
  ·have:=((hk (many p i - 1)).2 (by omega)).2.1
   omega
section
variable {key:Lb8} {ep:BitVec 32} {P:List (Lb8)}
theorem refT_wf (i:Nat):(refT key ep P i).Wf:=hideR_wf _ _ _ _ _
theorem refT_pl (i:Nat):(refT key ep P i).pl=0:=by
 unfold refT hidI hideR
 split <;> rfl
theorem refsT_wf (n:Nat):∀ r∈refsT key ep P n,r.Wf:=by
 intro r hr
 rw [refsT_list] at hr
 obtain ⟨i,_,rfl⟩:=List.mem_map.1 hr
 exact refT_wf i
theorem node_refs (hP:GoodP P) (i n:Nat) (hi:P.length≤i) (hit:i < itn P.length) (hn:i≤n):kidR P.length (refsT key ep P n) i=(List.range (many P.length i)).map fun t=>refT key ep P (fst P.length i+t):=by
 have h:=node_kids P.length i hP.p0 hP.p1 hi hit
 apply List.ext_getElem
 ·rw [kidR_length _ _ _ (by rw [refsT_length];omega)];simp
 ·intro t h1 h2
  have ht:t < many P.length i:=by simpa using h2
  have a:=kidR_get P.length (refsT key ep P n) i t ht
  rw [refsT_get key ep P n (fst P.length i+t) (by omega)] at a
  rw [List.getElem_map,List.getElem_range,←a,List.getD_eq_getElem?_getD,List.getElem?_eq_getElem h1]
  rfl
theorem node_lay (hP:GoodP P) (i n:Nat) (hi:P.length≤i) (hit:i < itn P.length) (hn:i≤n):(layN (kidR P.length (refsT key ep P n) i)).2=0:=by
 have h:=node_kids P.length i hP.p0 hP.p1 hi hit
 have hl:(kidR P.length (refsT key ep P n) i).length=many P.length i:=kidR_length _ _ _ (by rw [refsT_length];omega)
 have h6:=many_le P.length i
 rw [layN_good (by omega) (by omega)]
 intro t ht
 rw [kidR_get _ _ _ _ (by omega),refsT_get key ep P n _ (by omega)]
 unfold plOk
 rw [refT_pl]
 rfl
theorem kidR_wf (p:Nat) {R:List RefV} (h:∀ r∈R,r.Wf) (i:Nat):∀ r∈kidR p R i,r.Wf:=fun r hr=>h r (List.mem_of_mem_drop (List.mem_of_mem_take hr))
theorem pgT_length (hP:GoodP P) (i:Nat) (hit:i < itn P.length):(pgT key ep P i).length=256:=by
 unfold pgT pageI
 by_cases h:i < P.length
 ·rw [if_pos h,List.getD_eq_getElem?_getD,List.getElem?_eq_getElem h]
  exact hP.len _ (List.getElem_mem h)
 ·rw [if_neg h]
  exact layN_length (kidR_wf _ (refsT_wf i) i) (Prod.ext rfl (node_lay hP i i (by omega) hit (Nat.le_refl _)))
theorem hid_ok (hP:GoodP P) (i:Nat) (hit:i < itn P.length):hidI key ep P (refsT key ep P i) i=(selT key ep P i,refT key ep P i,0)∧selT key ep P i=sealL key ep (2+2*(i:Int)) (pgT key ep P i)∧refT key ep P i=⟨0,ep,digestOf (selT key ep P i)⟩:=by
 have hl:=pgT_length (key:=key) (ep:=ep) hP i hit
 have h:hidI key ep P (refsT key ep P i) i=_:=hideR_good key ep 0 (2+2*(i:Int)) (pgT key ep P i) hl (by omega) (by omega) (by omega)
 unfold selT refT
 rw [h]
 exact ⟨rfl,rfl,rfl⟩
theorem selT_length (hP:GoodP P) (i:Nat) (hit:i < itn P.length):(selT key ep P i).length=256:=by
 rw [(hid_ok hP i hit).2.1,sealL_length,pgT_length hP i hit]
theorem open_made (hP:GoodP P) (i:Nat) (hit:i < itn P.length):openR key (refT key ep P i) (2+2*(i:Int)) (selT key ep P i)=(pgT key ep P i,0):=by
 obtain ⟨_,h2,h3⟩:=hid_ok (key:=key) (ep:=ep) hP i hit
 rw [openR_good key _ _ _ (selT_length hP i hit) (by omega) (by rw [h3])]
 have e:(refT key ep P i).ep=ep:=by rw [h3]
 rw [e,h2,sealL_back]
end
def makeT (key:Lb8) (ep:BitVec 32) (P:List (Lb8)):List (Nat × Lb8) × RefV × Int:=
 if 1≤P.length∧P.length≤216∧(P.all fun x=>x.length == 256)=true then ((List.range (itn P.length)).map fun i=>(2+2*i,selT key ep P i),refT key ep P (itn P.length - 1),0) else ([],zref,1)
def fetchT (B key:Lb8) (p:Nat) (z:Int) (r:RefV):Lb8 × Int:=
 if BZ p z r.pl < 0∨(B.length:Int) < 256*BZ p z r.pl+256 then ([],1) else openR key r (BZ p z r.pl) (blkOf B (BZ p z r.pl).toNat)
def kidsT (p:Nat) (z:Int) (page:Lb8):List RefV × Int:=if (KZ p z).length=0 then ([],1) else parseN page ((KZ p z).length:Int)
def laidR (R:List RefV) (f:Nat) (L:List RefV):List RefV:=R.take f++L++R.drop (f+L.length)
def wholeG (B key:Lb8) (p:Nat) (root:RefV):Nat→List RefV × List (Lb8) × Int
 | 0=>(List.replicate (itn p - 1) zref++[root],List.replicate p [],0)
 | k+1=>
  if (wholeG B key p root k).2.2≠0 then ([],[],(wholeG B key p root k).2.2)
  else if (fetchT B key p ((itn p - (k+1):Nat):Int) ((wholeG B key p root k).1.getD (itn p - (k+1)) zref)).2≠0 then ([],[],(fetchT B key p ((itn p - (k+1):Nat):Int) ((wholeG B key p root k).1.getD (itn p - (k+1)) zref)).2)
  else if itn p - (k+1) < p then ((wholeG B key p root k).1,(wholeG B key p root k).2.1.set (itn p - (k+1)) (fetchT B key p ((itn p - (k+1):Nat):Int) ((wholeG B key p root k).1.getD (itn p - (k+1)) zref)).1,0)
  else if (kidsT p ((itn p - (k+1):Nat):Int) (fetchT B key p ((itn p - (k+1):Nat):Int) ((wholeG B key p root k).1.getD (itn p - (k+1)) zref)).1).2≠0 then ([],[],(kidsT p ((itn p - (k+1):Nat):Int) (fetchT B key p ((itn p - (k+1):Nat):Int) ((wholeG B key p root k).1.getD (itn p - (k+1)) zref)).1).2)
  else (laidR (wholeG B key p root k).1 (fst p (itn p - (k+1))) (kidsT p ((itn p - (k+1):Nat):Int) (fetchT B key p ((itn p - (k+1):Nat):Int) ((wholeG B key p root k).1.getD (itn p - (k+1)) zref)).1).1,(wholeG B key p root k).2.1,0)
def wholeT (B key:Lb8) (p:Nat) (root:RefV):List RefV × List (Lb8) × Int:=
 if (wholeG B key p root (itn p)).2.2≠0 then ([],[],(wholeG B key p root (itn p)).2.2) else wholeG B key p root (itn p)
end Sha
end Go.Proofs.YtlhnegbjoncieaaGreatDoor
namespace Go.Proofs.YtlhnegbjoncieaaGreatDoor
namespace Sha
open Go.RowKit Mem
theorem at_slB {F:Foot} {w:World} {g n:Nat} {l:Lb8} {t:TypeId} (h:At w g (u8s l).toArray t) (hn:l.length=n) (hF:F g):SlB F w (.slice (some ⟨g,0,none⟩) n n) l:=by
 subst hn
 refine ⟨by simp [u8s_length],some ⟨g,0,none⟩,l.length,rfl,Nat.le_refl _,fun _=>⟨g,0,rfl,hF,h.lt,fun j u hu=>?_⟩⟩
 rw [h.cell,Nat.zero_add,List.getElem?_toArray];exact hu
def SBEnd (w:World) (L:Lb8) (e:Ending) (w':World):Prop:=∃ v,e=.returned v∧SlB (fun k=>w.heap.size≤k) w' v L∧Below w.heap.size w w'
theorem send_sb {w w':World} {L:Lb8} {e:Ending} (h:SEnd w L e w'):SBEnd w L e w':=by
 obtain ⟨g,rfl,ha,hg,hb⟩:=h
 exact ⟨_,rfl,at_slB ha rfl hg,hb⟩
def SealBEnd (w:World) (l:Lb8) (n:Int) (e:Ending) (w':World):Prop:=∃ v,e=.returned (.tuple #[v,.int .i64 n])∧SlB (fun k=>w.heap.size≤k) w' v l∧Below w.heap.size w w'
theorem pisBlock_any (block:Int) (l:Lb8) (v:Value) (w:World) (hv:Sl w v l):Calls Tryz.prog 117 #[.int .i64 block,v] w fun e w'=>e=.returned (.bool (!(sealBad block l)))∧Below w.heap.size w w':=by
 obtain ⟨a0,c0,rfl⟩:=sl_inv hv
 by_cases h2:block < 0
 ·have e0:sealBad block l=true:=by simp [sealBad,h2]
  rw [e0]
  obtain ⟨n,hn⟩:∃ n,n=l.length:=⟨_,rfl⟩
  rw [←hn]
  have h2':¬ (0:Int)≤block:=by omega
  clear hv e0 hn
  go_enter Tryz.func117,Tryz.ntmps117
  go_wp2_with fail
  go_ret
  exact ⟨rfl,Below.refl _ _⟩
 ·have h2':(0:Int)≤block:=by omega
  by_cases h1:l.length=256
  ·have e0:sealBad block l=false:=by simp [sealBad,h1,h2]
   rw [e0,h1]
   clear hv e0 h1
   go_enter Tryz.func117,Tryz.ntmps117
   go_wp2_with fail
   go_ret
   exact ⟨rfl,Below.refl _ _⟩
  ·have e0:sealBad block l=true:=by simp [sealBad,h1]
   rw [e0]
   obtain ⟨n,hn⟩:∃ n,n=l.length:=⟨_,rfl⟩
   rw [←hn] at h1 ⊢
   have h1':((n:Int) == 256)=false:=by
    have:¬ (n:Int)=256:=by omega
    simpa using this
   clear hv e0 hn
   go_enter Tryz.func117,Tryz.ntmps117
   go_wp2_with fail
   go_ret
   exact ⟨rfl,Below.refl _ _⟩
theorem pisPlace_any (place:Int) (w:World):Calls Tryz.prog 103 #[.int .i64 place] w fun e w'=>e=.returned (.bool (!(decide (place < 0∨1 < place))))∧Below w.heap.size w w':=by
 by_cases h0:place < 0
 ·have e0:decide (place < 0∨1 < place)=true:=by simp [h0]
  rw [e0]
  have h0':¬ (0:Int)≤place:=by omega
  clear e0
  go_enter Tryz.func103,Tryz.ntmps103
  go_wp2_with fail
  go_ret
  exact ⟨rfl,Below.refl _ _⟩
 ·have h0':(0:Int)≤place:=by omega
  by_cases h1:1 < place
  ·have e0:decide (place < 0∨1 < place)=true:=by simp [h1]
   rw [e0]
   have h1':¬ place≤1:=by omega
   clear e0
   go_enter Tryz.func103,Tryz.ntmps103
   go_wp2_with fail
   go_ret
   exact ⟨rfl,Below.refl _ _⟩
  ·have e0:decide (place < 0∨1 < place)=false:=by simp [h0,h1]
   rw [e0]
   have h1':place≤1:=by omega
   clear e0
   go_enter Tryz.func103,Tryz.ntmps103
   go_wp2_with fail
   go_ret
   exact ⟨rfl,Below.refl _ _⟩
theorem pturn_any (key:Lb8) (lk:key.length=32) (ep:BitVec 32) (block:Int) (h0:0≤block) (hbk:block≤9223372036854775807) (page:Lb8) (v:Value) (w:World) (hv:Sl w v page) (hp:page.length≤1048576) (hT:CTabs w) :
 Calls Tryz.prog 118 #[.agg (u8s key).toArray,.int .u32 (V ep),.int .i64 block,v] w (SBEnd w (sealL key ep block page)):=by
 obtain ⟨bb,hbb⟩:∃ bb,bb=BitVec.ofNat 64 block.toNat:=⟨_,rfl⟩
 have cv:=fun wx=>conv_i64u block bb hbb h0 hbk wx
 have non:=fun wx=>nonce_any ep bb wx
 have rt:∀ wx,Sl wx v page→CTabs wx→Calls Tryz.prog 140 #[.agg (u8s key).toArray,.agg (ncOf ep bb),.int .u32 0,v] wx (SBEnd wx (sealL key ep block page)):=fun wx h hL=>by
  have k:=turned_any key (cnonce ep bb) 0 page _ lk (cnonce_length _ _) hp wx h hL
  unfold sealL
  rw [←hbb]
  exact k.mono fun _ _ h=>send_sb h
 have ha:Below w.heap.size w (w.alloc (.cells (u8s key).toArray 22)):=(Below.refl _ _).alloc (Nat.le_refl _) _
 obtain ⟨C,hC⟩:∃ C,C=(u8s key).toArray:=⟨_,rfl⟩
 have cs:C.size=32:=by rw [hC];simp [u8s_length,lk]
 rw [←hC] at rt ha ⊢
 have an:=at_new w C 22
 obtain ⟨L,hL⟩:∃ L,L=sealL key ep block page:=⟨_,rfl⟩
 rw [←hL] at rt ⊢
 have CV:=zh cv;have NON:=zh non;have RT:=zh rt;have CS:=zh cs;have A1:=zh an;have BA:=zh ha;have S1:=zh (hv.below ha);have T1:=zh (hT.below ha (Nat.le_refl _))
 clear cv non rt cs an ha hv hC hL hbb lk hp hT h0 hbk
 obtain ⟨nc,hnc⟩:∃ nc,nc=ncOf ep bb:=⟨_,rfl⟩
 rw [←hnc] at NON RT
 clear hnc
 go_enter Tryz.func118,Tryz.ntmps118
 go_wp2_with fail
 obtain ⟨b1,hb1⟩:∃ b1,b1=w.heap.size:=⟨_,rfl⟩
 rw [←hb1] at A1 ⊢
 clear hb1
 generalize w.alloc (.cells C 22)=w1 at *
 have B1:Hid (Below w1.heap.size w1 w1.drew):=zh (Below.refl _ _).drew
 refine wp_region_plan_in (fun x=>Below w1.heap.size w1 x) (.take 0 (.take 1 (.take 2 (.take 3 (.take 5 (.sole 4 (.sole 6 (.take 7 .done)))))))) (by kernel_rfl) (by kernel_rfl) (by kernel_rfl) B1.out ?_
 refine plan_row 22 _ b1 _ C 22 zr zr zr ze (fun w' hw'=>A1.out.below hw' A1.out.lt) Tryz.underlying22 zr (by rw [CS.out];exact infoDg) ?_
 (simp only [Mem.zp,Mem.pb,Mem.pc])
 iterate 2 ((first | refine Mem.pm1 ?_ | refine Mem.pm2 ?_ | refine Mem.pt ?_ | refine Mem.pf ?_);(simp only [Mem.zp,Mem.pb,Mem.pc]))
 refine plan_conv 3 190 _ (.int .i64 block) (.int .u64 (bb.toNat:Int)) zr zr zr ze (fun wx=>CV.out wx) ?_
 (simp only [Mem.zp,Mem.pb,Mem.pc])
 (first | refine Mem.pm1 ?_ | refine Mem.pm2 ?_ | refine Mem.pt ?_ | refine Mem.pf ?_)
 (simp only [Mem.zp,Mem.pb,Mem.pc])
 refine plan_call 141 _ _ _ (by kernel_rfl) zr zr zr (by first | exact Mem.ev_none _ | (simp only [List.map_toArray,List.map_cons,List.map_nil,Mem.ev_tmp,List.getD_cons_succ,List.getD_cons_zero] <;> rfl)) ?_
 refine (NON.out _).mono ?_
 rintro o2 w2 ⟨rfl,hb⟩
 have B2:Hid (Below w1.heap.size w1 w2):=zh (B1.out.trans (hb.mono B1.out.size))
 clear hb
 refine ⟨_,rfl,B2.out,?_⟩
 (simp only [Mem.zp,Mem.pb,Mem.pc])
 refine plan_call 140 _ _ _ (by kernel_rfl) zr zr zr (by first | exact Mem.ev_none _ | (simp only [List.map_toArray,List.map_cons,List.map_nil,Mem.ev_tmp,List.getD_cons_succ,List.getD_cons_zero] <;> rfl)) ?_
 refine (RT.out _ (S1.out.below B2.out) (T1.out.below B2.out (Nat.le_refl _))).mono ?_
 rintro o3 w3 ⟨v3,rfl,hs,hb⟩
 have B3:Hid (Below w1.heap.size w1 w3):=zh (B2.out.trans (hb.mono B2.out.size))
 have S3:=zh hs
 clear hs hb
 refine ⟨_,rfl,B3.out,?_⟩
 (simp only [Mem.zp,Mem.pb,Mem.pc])
 (first | refine Mem.pm1 ?_ | refine Mem.pm2 ?_ | refine Mem.pt ?_ | refine Mem.pf ?_)
 (simp only [Mem.zp,Mem.pb,Mem.pc])
 refine plan_nil ?_
 go_wp2_with fail
 go_ret
 exact ⟨_,rfl,S3.out.mono fun k hk _=>Nat.le_trans BA.out.size (Nat.le_trans B2.out.size hk),BA.out.trans (B3.out.mono BA.out.size)⟩
theorem pseal_any (key:Lb8) (lk:key.length=32) (ep:BitVec 32) (block:Int) (hbk:block≤9223372036854775807) (page:Lb8) (v:Value) (w:World) (hv:Sl w v page) (hp:page.length≤1048576) (hT:CTabs w) :
 Calls Tryz.prog 104 #[.agg (u8s key).toArray,.int .u32 (V ep),.int .i64 block,v] w (SealBEnd w (sealR key ep block page).1 (sealR key ep block page).2):=by
 have ha:Below w.heap.size w (w.alloc (.cells (u8s key).toArray 22)):=(Below.refl _ _).alloc (Nat.le_refl _) _
 have ib:=fun wx (h:Below w.heap.size w wx)=>pisBlock_any block page v wx (hv.below h)
 have tn:=fun (h0:0≤block) wx (h:Below w.heap.size w wx)=>pturn_any key lk ep block h0 hbk page v wx (hv.below h) hp (hT.below h (Nat.le_refl _))
 obtain ⟨C,hC⟩:∃ C,C=(u8s key).toArray:=⟨_,rfl⟩
 have cs:C.size=32:=by rw [hC];simp [u8s_length,lk]
 rw [←hC] at tn ha ⊢
 have an:=at_new w C 22
 have IB:=zh ib;have CS:=zh cs;have A1:=zh an;have BA:=zh ha
 clear ib cs an ha hC
 by_cases hb:sealBad block page=true
 ·have e0:sealR key ep block page=([],1):=by simp [sealR,hb]
  rw [e0]
  rw [hb] at IB
  clear tn hb e0 hv hp hT lk hbk
  go_enter Tryz.func104,Tryz.ntmps104
  go_wp2_with fail
  refine (IB.out _ BA.out).mono ?_
  rintro e w2 ⟨rfl,hb2⟩
  have B2:=zh (BA.out.trans (hb2.mono BA.out.size))
  clear hb2
  go_wp2_with fail
  go_ret2
  exact ⟨_,rfl,slB_nil _ _,B2.out⟩
 ·have e0:sealR key ep block page=(sealL key ep block page,0):=by simp [sealR,hb]
  rw [e0]
  have hb':sealBad block page=false:=by simpa using hb
  have h0:0≤block:=by simp [sealBad] at hb';omega
  rw [hb'] at IB
  have TN:=zh (tn h0)
  clear tn hb hb' e0 hv hp hT lk hbk h0
  go_enter Tryz.func104,Tryz.ntmps104
  go_wp2_with fail
  refine (IB.out _ BA.out).mono ?_
  rintro e w2 ⟨rfl,hb2⟩
  have B2:=zh (BA.out.trans (hb2.mono BA.out.size));have A2:=zh (A1.out.below hb2 A1.out.lt)
  clear hb2
  go_wp2_with (refine wpList_load_all zr 22 _ zr w.heap.size zr _ Tryz.underlying22 zr C _ A2.out (by rw [CS.out];exact infoDg) ?_)
  refine (TN.out _ B2.out).mono ?_
  rintro e w3 ⟨v3,rfl,hs3,hb3⟩
  have B3:=zh (B2.out.trans (hb3.mono B2.out.size));have S3:=zh hs3
  clear hs3 hb3
  go_wp2_with fail
  go_ret2
  exact ⟨_,rfl,S3.out.mono fun k hk _=>Nat.le_trans B2.out.size hk,B3.out⟩
theorem pdigN_any (l:Lb8) (v:Value) (w:World) (hv:Sl w v l) (hp:l.length≤1048576) (hT:Tabs w) :
 Calls Tryz.prog 105 #[.pointer none,v] w fun e w'=>e=.returned (.agg (u8s (digestOf l)).toArray)∧Below w.heap.size w w':=by
 obtain ⟨Z,hZ⟩:∃ Z,Z=(u8s (List.replicate 32 (0:BitVec 8))).toArray:=⟨_,rfl⟩
 have zs:Z.size=32:=by rw [hZ];simp [u8s_length]
 have hx:∀ w,(zeroValue 22).run Tryz.prog w=.ok (.agg Z) w:=by rw [hZ];exact fun _=>by kernel_rfl
 obtain ⟨G,hG⟩:∃ G,G=(u8s (digestOf l)).toArray:=⟨_,rfl⟩
 have gs:G.size=32:=by rw [hG];simp [u8s_length,digestOf_length]
 have go:G.all (·.oneCell')=true:=by rw [hG];exact u8s_one _
 have hsum:=fun (wx:World) (vx:Value) (hx:Sls wx vx [l]) (ht:Tabs wx)=>sumAll_any [l] vx wx (by simp;omega) (by simp) hx ht
 rw [show [l].flatten=l by simp,←hG] at hsum
 have az:=at_new w Z 22
 have bz:Below w.heap.size w (w.alloc (.cells Z 22)):=(Below.refl _ _).alloc (Nat.le_refl _) _
 have hsl:=sls_lit1 (hv.below bz)
 rw [←hG]
 have bl:Below w.heap.size w ((w.alloc (.cells Z 22)).alloc (.cells #[v] 31)):=bz.alloc (by simp) _
 have az2:=az.alloc (.cells #[v] 31)
 have ht2:=hT.below bl (Nat.le_refl _)
 obtain ⟨a0,c0,rfl⟩:=sl_inv hv
 obtain ⟨n,hn⟩:∃ n,n=l.length:=⟨_,rfl⟩
 rw [←hn] at hsl bl az2 ht2 ⊢
 have ZS:=zh zs;have GS:=zh gs;have GO:=zh go;have SUM:=zh hsum;have SLS:=zh hsl;have BL:=zh bl;have AZ:=zh az2;have TT:=zh ht2
 clear zs gs go hsum hsl bl az2 ht2 az bz hv hp hT hZ hG hn
 go_enter Tryz.func105,Tryz.ntmps105
 go_wp2_with fail
 clear hx
 have hs2:(w.alloc (.cells Z 22)).heap.size=w.heap.size+1:=by simp
 rw [hs2] at SLS
 refine (SUM.out _ _ SLS.out TT.out).mono ?_
 rintro e w3 ⟨rfl,hb3⟩
 have A3:=zh (AZ.out.below hb3 AZ.out.lt);have B3:=zh (BL.out.trans (hb3.mono BL.out.size))
 clear hb3 SLS hs2 BL AZ TT SUM
 go_wp2_with (refine wpList_store_all zr 22 _ _ zr zr w.heap.size G zr zr (by rw [GS.out];exact infoDg) Z _ A3.out (by rw [ZS.out,GS.out]) GO.out ?_)
 try simp only [Exit.inBlock,Exit.then]
 refine ret_row zr w.heap.size 22 G _ zr (A3.out.row G) Tryz.underlying22 zr (by rw [GS.out];exact infoDg) ?_
 exact ⟨rfl,below_row B3.out (Nat.le_refl _) G⟩
abbrev bkp (b:Nat):Value:=.pointer (some ⟨b,0,none⟩)
structure BkV (F D:Foot) (bk:Nat) (w:World) (ts:List (Lb8)) (v:Value):Prop where
 box:F bk
 lt:∀ k,F k→k < w.heap.size
 row:At w bk #[v] 215
 ov:∀ k,v.ownBlock=some k→F k∧k≠bk
 dF:∀ k,D k→F k∧k≠bk∧v.ownBlock≠some k
 hs:∃ hs:List Value,Each2 (fun p q=>SlB D w p q) hs ts∧w.ownsRow 0 31 1 v ts.length hs
def Bk (F:Foot) (bk:Nat) (w:World) (ts:List (Lb8)):Prop:=∃ D v,BkV F D bk w ts v
theorem BkV.keep {F D:Foot} {bk:Nat} {w w':World} {ts:List (Lb8)} {v:Value} (h:BkV F D bk w ts v) (hs:w.heap.size≤w'.heap.size) (hk:∀ k,F k→k < w.heap.size→w'.heap[k]?=w.heap[k]?):BkV F D bk w' ts v:=by
 obtain ⟨l,h1,h2⟩:=h.hs
 refine ⟨h.box,fun k hF=>Nat.lt_of_lt_of_le (h.lt k hF) hs,?_,h.ov,h.dF,l,h1.mono fun _ _ g=>g.keep hs fun k hd hlt=>hk k (h.dF k hd).1 hlt,ownsRow_keep h2 fun g hg=>hk g (h.ov g hg).1 (World.ownsRow.lt h2 g hg).2⟩
 have h8:=h.row
 unfold At at *
 rw [hk bk h.box (h.lt bk h.box)];exact h8
theorem Bk.keep {F:Foot} {bk:Nat} {w w':World} {ts:List (Lb8)} (h:Bk F bk w ts) (hs:w.heap.size≤w'.heap.size) (hk:∀ k,F k→k < w.heap.size→w'.heap[k]?=w.heap[k]?):Bk F bk w' ts:=by
 obtain ⟨D,v,h⟩:=h
 exact ⟨D,v,h.keep hs hk⟩
theorem bk_add {F D:Foot} {bk:Nat} {w w2 w3 w5 w8:World} {ts:List (Lb8)} {v v' v2:Value} {x:Lb8} {hs:List Value} (h:BkV F D bk w ts v) (he:Each2 (fun p q=>SlB D w p q) hs ts) (hown:w.ownsRow 0 31 1 v ts.length hs)
 (hb:Below w.heap.size w w2) (ho:OwnB w2 w.heap.size v2 x) (hb2:Below w2.heap.size w2 w3) (ha:App w3 w5 v v') (hb5:Below 0 w3 w5) (ho5:w5.ownsRow 0 31 1 v' (ts.length+1) (hs++[v2]))
 (hA:At w8 bk #[v'] 215) (hk2:∀ k,k≠bk→w8.heap[k]?=w5.heap[k]?) (hk:∀ B a,Below B a w5→B≤bk→Below B a w8) :
 Bk (grow F w w8) bk w8 (ts++[x])∧Chg F w w8:=by
 have hb3:Below w.heap.size w w3:=hb.trans (hb2.mono hb.size)
 have hbk:=h.lt bk h.box
 have h58:=hk 0 w5 (Below.refl _ _) (Nat.zero_le _)
 have h35:=ha.size
 have hsz:w.heap.size≤w8.heap.size:=Nat.le_trans hb3.size (Nat.le_trans h35 h58.size)
 have s2:SlB (fun k=>D k∨v2.ownBlock=some k) w3 v2 x:=by
  have h0:SlB (fun k=>D k∨v2.ownBlock=some k) w2 v2 x:=by
   refine ⟨by simp [u8s_length],?_⟩
   obtain ⟨a,cap,e,hc,hr⟩:=ho.open
   refine ⟨a,cap,e,hc,fun hne=>?_⟩
   obtain ⟨g,ea,_,hlt,hcell⟩:=hr (fun h0=>hne (by rw [h0];rfl))
   refine ⟨g,0,ea,.inr (by rw [e,ea];rfl),hlt,fun j u hu=>?_⟩
   have hj:j < x.length:=by
    have:=(List.getElem?_eq_some_iff.1 hu).1
    rwa [u8s_length] at this
   rw [Nat.zero_add,hcell j hj,←u8s_get x j hj,hu]
  exact h0.keep hb2.size fun k _ hlt=>hb2.block k hlt
 have e3:Each2 (fun p q=>SlB (fun k=>D k∨v2.ownBlock=some k) w3 p q) (hs++[v2]) (ts++[x]):=
  Each2.snoc s2 (he.mono fun _ _ g=>(g.keep hb3.size fun k _ hlt=>hb3.block k hlt).mono fun _ hk _=>.inl hk)
 have hv':∀ k,v'.ownBlock=some k→(F k∨w3.heap.size≤k)∧k≠bk∧k < w5.heap.size:=fun k hk'=>by
  have hlt:=(World.ownsRow.lt ho5 k hk').2
  rcases ha.b with e | ⟨g,e,hg⟩
  ·rw [e] at hk';exact ⟨.inl (h.ov k hk').1,(h.ov k hk').2,hlt⟩
  ·rw [e] at hk'
   have e2:g=k:=by simpa using hk'
   have:=hb3.size
   exact ⟨.inr (by omega),by omega,hlt⟩
 have hd':∀ k,(D k∨v2.ownBlock=some k)→(F k∨w.heap.size≤k)∧k≠bk∧v.ownBlock≠some k∧k < w3.heap.size:=fun k hk'=>by
  rcases hk' with hk' | hk'
  ·have hl:=h.lt k (h.dF k hk').1
   have:=hb3.size
   exact ⟨.inl (h.dF k hk').1,(h.dF k hk').2.1,(h.dF k hk').2.2,by omega⟩
  ·have h6:=ho.lt k hk'
   have:=hb2.size
   refine ⟨.inr h6.1,by omega,fun e=>?_,by omega⟩
   have:=(World.ownsRow.lt hown k e).2
   omega
 refine ⟨⟨fun k=>D k∨v2.ownBlock=some k,v',⟨.inl h.box,hA.lt⟩,grow_lt,hA,fun k hk'=>?_,fun k hk'=>?_,hs++[v2],?_,?_⟩,?_⟩
 ·obtain ⟨h1,h2,h3⟩:=hv' k hk'
  have:=hb3.size
  have:=h58.size
  exact ⟨⟨h1.imp id fun g=>by omega,by omega⟩,h2⟩
 ·obtain ⟨h1,h2,h3,h4⟩:=hd' k hk'
  have:=h58.size
  refine ⟨⟨h1,by omega⟩,h2,fun e=>?_⟩
  rcases ha.b with e2 | ⟨g,e2,hg⟩
  ·rw [e2] at e;exact h3 e
  ·rw [e2] at e
   have:g=k:=by simpa using e
   omega
 ·refine e3.mono fun _ _ g=>g.keep (Nat.le_trans h35 h58.size) fun k hd hlt=>?_
  obtain ⟨_,h2,h3,_⟩:=hd' k hd
  rw [hk2 k h2,ha.k k hlt h3]
 ·rw [List.length_append]
  exact ownsRow_keep ho5 fun g hg=>hk2 g (hv' g hg).2.1
 ·refine ⟨h58.os.trans (hb5.os.trans hb3.os),h58.tape.trans (hb5.tape.trans hb3.tape),h58.output.trans (hb5.output.trans hb3.output),hsz,fun k hlt hn=>?_⟩
  have hne:k≠bk:=fun e=>hn (e ▸ h.box)
  rw [hk2 k hne,ha.k k (Nat.lt_of_lt_of_le hlt hb3.size) fun e=>hn (h.ov k e).1,hb3.block k hlt]
def BkO (F:Foot) (bp:Value) (w:World) (ts:List (Lb8)):Prop:=(bp=.pointer none∧∀ k,¬ F k)∨∃ bk,bp=bkp bk∧Bk F bk w ts
theorem BkO.keep {F:Foot} {bp:Value} {w w':World} {ts:List (Lb8)} (h:BkO F bp w ts) (hs:w.heap.size≤w'.heap.size) (hk:∀ k,F k→k < w.heap.size→w'.heap[k]?=w.heap[k]?):BkO F bp w' ts:=
 h.imp id fun ⟨bk,e,g⟩=>⟨bk,e,g.keep hs hk⟩
theorem BkO.below {F:Foot} {bp:Value} {w w':World} {ts:List (Lb8)} (h:BkO F bp w ts) (hb:Below w.heap.size w w'):BkO F bp w' ts:=h.keep hb.size fun k _ hlt=>hb.block k hlt
theorem BkO.lt {F:Foot} {bp:Value} {w:World} {ts:List (Lb8)} (h:BkO F bp w ts):∀ k,F k→k < w.heap.size:=fun k hF=>by
 rcases h with ⟨_,h⟩ | ⟨bk,_,D,v,h⟩
 ·exact absurd hF (h k)
 ·exact h.lt k hF
def BkEnd (F:Foot) (bp:Value) (w:World) (ts:List (Lb8)) (w':World):Prop:=(∃ F',BkO F' bp w' ts∧∀ k,F' k→F k∨w.heap.size≤k)∧Chg F w w'
theorem elemRS9:elemR Tryz.prog 32 31 (.slice none 0 0) 1 24:=⟨Tryz.underlying32,by kernel_rfl⟩
theorem infoSh9:(Tryz.prog.info? 32).map (·.size)=some 1:=by kernel_rfl
theorem own_hd9 {w:World} {B n:Nat} {v:Value} {l:Lb8} (h:OwnB w B v l) (hn:n=l.length):∃ a c,v=.slice a n c:=by
 subst hn
 obtain ⟨a,c,e,_⟩:=h.open
 exact ⟨a,c,e⟩
theorem dig_end {F:Foot} {bk:Nat} {w w1 w8 w9:World} {ts:List (Lb8)} (hal:Below w.heap.size w w1) (flt:∀ k,F k→k < w.heap.size) (h1:w1.heap.size=w.heap.size+1) (h:Bk (grow F w1.drew w8) bk w8 ts∧Chg F w1.drew w8) (hb:Below w8.heap.size w8 w9) (M:Array Value) :
 (∃ F',Bk F' bk (w9.setRow w.heap.size M) ts∧∀ k,F' k→F k∨w.heap.size≤k)∧Chg F w (w9.setRow w.heap.size M):=by
 refine ⟨⟨grow F w1.drew w8,(h.1.keep hb.size fun k _ hlt=>hb.block k hlt).keep (by simp) fun k hk _=>setRow_other w9 _ k M ?_,fun k hk=>?_⟩,?_⟩
 ·rcases hk.1 with g | g
  ·have:=flt k g;omega
  ·have g:w1.heap.size≤k:=g
   omega
 ·rcases hk.1 with g | g
  ·exact .inl g
  ·have g:w1.heap.size≤k:=g
   exact .inr (by omega)
 ·have c9:Chg F w w9:=(((Chg.of_below hal).drew).trans (F1:=F) h.2 fun _ hx=>.inl hx).trans (F1:=F) (Chg.of_below hb) fun _ hx=>.inl hx
  exact c9.trans (F1:=fun k=>k=w.heap.size) ⟨rfl,rfl,rfl,by simp,fun k _ hn=>setRow_other w9 _ k M hn⟩ fun x hx=>.inr (by omega)
theorem pdigB_any {F G:Foot} {bk:Nat} {ts:List (Lb8)} (l:Lb8) (v:Value) (w x:World) (hr:Bk F bk w ts) (hn:ts.length < 100000) (hv:SlB G w v l) (hG:∀ k,G k→¬ F k) (hp:l.length≤1000000) (hT:Tabs x) (hxw:Below x.heap.size x w) (hF:∀ k,F k→x.heap.size≤k) :
 Calls Tryz.prog 105 #[bkp bk,v] w fun e w'=>e=.returned (.agg (u8s (digestOf l)).toArray)∧((∃ F',Bk F' bk w' (ts++[l])∧∀ k,F' k→F k∨w.heap.size≤k)∧Chg F w w'):=by
 obtain ⟨Z,hZ⟩:∃ Z,Z=(u8s (List.replicate 32 (0:BitVec 8))).toArray:=⟨_,rfl⟩
 have zs:Z.size=32:=by rw [hZ];simp [u8s_length]
 have hx:∀ w,(zeroValue 22).run Tryz.prog w=.ok (.agg Z) w:=by rw [hZ];exact fun _=>by kernel_rfl
 obtain ⟨G32,hG32⟩:∃ G,G=(u8s (digestOf l)).toArray:=⟨_,rfl⟩
 have gs:G32.size=32:=by rw [hG32];simp [u8s_length,digestOf_length]
 have go:G32.all (·.oneCell')=true:=by rw [hG32];exact u8s_one _
 have hsum:=fun (wx:World) (vx:Value) (hx:Sls wx vx [l]) (ht:Tabs wx)=>sumAll_any [l] vx wx (by simp;omega) (by simp) hx ht
 rw [show [l].flatten=l by simp,←hG32] at hsum
 rw [←hG32]
 have hal:Below w.heap.size w (w.alloc (.cells Z 22)):=(Below.refl _ _).alloc (Nat.le_refl _) _
 have haz:=at_new w Z 22
 obtain ⟨w1,hw1⟩:∃ w1,w1=w.alloc (.cells Z 22):=⟨_,rfl⟩
 obtain ⟨D,vb,hb0⟩:=hr
 have hb1:BkV F D bk w1 ts vb:=by rw [hw1];exact hb0.keep hal.size fun k _ hlt=>hal.block k hlt
 have hv1:SlB G w1 v l:=by rw [hw1];exact hv.keep hal.size fun k _ hlt=>hal.block k hlt
 rw [←hw1] at haz hal
 obtain ⟨hs,he,hown⟩:=hb1.hs
 obtain ⟨asx,caps,rfl⟩:=rows_hd hown
 have hbkw:bk < w.heap.size:=hb0.lt bk hb0.box
 have hFlt:=hb0.lt
 have hne:=own_ne_at hown hb1.row (by decide)
 have hcl:=pclone_any l v w1.drew hp (hv1.sl.below (Below.refl _ _).drew)
 obtain ⟨a0,c0,rfl⟩:=sl_inv hv.sl
 obtain ⟨L,hL⟩:∃ L,L=l.length:=⟨_,rfl⟩
 obtain ⟨M,hM⟩:∃ M,M=ts.length:=⟨_,rfl⟩
 rw [←hL] at hv hv1 hcl ⊢
 rw [←hM] at hn hb1 hown hne
 have hrow:=hb1.row
 have g1:(M:Int) < 100000:=by omega
 have c1:w1.drew.cell? ⟨bk,0,none⟩=some (.slice asx M caps):=by show w1.cell? _=_;rw [hrow.cell];rfl
 have c1':w1.cell? ⟨bk,0,none⟩=some (.slice asx M caps):=c1
 have HV:Hid (BkV F D bk w1.drew ts (.slice asx M caps)):=zh (hb1.keep (Nat.le_refl _) fun _ _ _=>rfl)
 have CL:=zh hcl;have HROW:Hid (At w1.drew bk #[.slice asx M caps] 215):=hrow.drew;have HO:Hid (w1.drew.ownsRow 0 31 1 (.slice asx M caps) M hs):=hown;have HE:Hid (Each2 (fun p q=>SlB D w1.drew p q) hs ts):=he
 have ZS:=zh zs;have GS:=zh gs;have GO:=zh go;have SUM:=zh hsum;have HAL:=zh hal;have HAZ:=zh haz;have HV1:=zh hv1;have HG:=zh hG;have HF:=zh hF;have HX:=zh hxw;have HT:=zh hT;have C1:=zh c1;have NE:=zh hne;have HM:=zh hM;have XL:=zh hL;have BKW:=zh hbkw;have HW1:=zh hw1;have FLT:=zh hFlt
 clear zs gs go hsum hal haz hv1 hv hG hF hxw hT hb1 hb0 hcl hrow hown he hne hM hL hZ hG32 hp hbkw hFlt
 go_enter Tryz.func105,Tryz.ntmps105
 go_upto_region 1 with fail
 rw [←HW1.out]
 clear hx hw1
 go_wp2_with fail
 refine wp_region_plan_in (fun _=>True) (.take 0 (.take 1 (.take 2 (.take 3 (.take 5 (.two 4 6 (.sole 6 (.sole 7 (.sole 8 (.take 9 (.take 10 (.sole 11 .done)))))) (.two 4 7 (.sole 7 (.sole 8 (.take 9 (.take 10 (.sole 11 .done))))) (.sole 4 (.sole 8 (.take 9 (.take 10 (.sole 11 .done)))))))))))) (by kernel_rfl) (by kernel_rfl) (by kernel_rfl) trivial ?_
 iterate 2 ((first | refine Mem.pm1 ?_ | refine Mem.pm2 ?_ | refine Mem.pt ?_ | refine Mem.pf ?_);(simp only [Mem.zp,Mem.pb,Mem.pc]))
 refine plan_nilcheck _ ⟨bk,0,none⟩ zr zr zr ze ?_
 (simp only [Mem.zp,Mem.pb,Mem.pc])
 refine plan_field 215 _ 0 bk 0 ⟨bk,0,none⟩ zr zr zr ze (fun wx=>by go_simp) ?_
 (simp only [Mem.zp,Mem.pb,Mem.pc])
 (first | refine Mem.pm1 ?_ | refine Mem.pm2 ?_ | refine Mem.pt ?_ | refine Mem.pf ?_)
 (simp only [Mem.zp,Mem.pb,Mem.pc])
 refine plan_two ?_ ?_
 ·refine plan_sole_cell 32 _ _ (.slice asx M caps) _ zr zr zr ze (by first | exact C1.out | exact C2.out | exact C3.out) Tryz.underlying32 zr trivial ?_
  (simp only [Mem.zp,Mem.pb,Mem.pc])
  refine plan_call 64 _ _ _ (by kernel_rfl) zr zr zr (by first | exact Mem.ev_none _ | (simp only [List.map_toArray,List.map_cons,List.map_nil,Mem.ev_tmp,List.getD_cons_succ,List.getD_cons_zero] <;> rfl)) ?_
  refine CL.out.mono ?_
  rintro o w2 ⟨v2,rfl,ho2,hb2⟩
  obtain ⟨a2,c2,rfl⟩:=own_hd9 ho2 XL.out
  have C2:Hid (w2.cell? ⟨bk,0,none⟩=some (.slice asx M caps)):=by have h:=C1.out;rw [hb2.cell (p:=⟨bk,0,none⟩) (HV.out.lt bk HV.out.box)];exact h
  have C3:Hid ((w2.alloc (.cells #[.slice a2 L c2] 31)).cell? ⟨bk,0,none⟩=some (.slice asx M caps)):=(cell_alloc (block_lt_of_cell C2.out)).trans C2.out
  have O2:=zh ho2;have B2:=zh hb2;have OW:=zh (ownsRow_below (ownsRow_below HO.out hb2) ((Below.refl _ w2).alloc (Nat.le_refl _) (.cells #[.slice a2 L c2] 31)))
  clear ho2 hb2
  refine ⟨_,rfl,trivial,?_⟩
  (simp only [Mem.zp,Mem.pb,Mem.pc])
  refine plan_slice 32 31 1 _ #[.slice a2 L c2] zr zr zr Tryz.underlying32 (by kernel_rfl) trivial ?_
  (simp only [Mem.zp,Mem.pb,Mem.pc])
  refine plan_append_app _ _ 32 zr zr zr (.slice (some ⟨w2.heap.size,0,none⟩) 1 1) M 1 1 [.slice a2 L c2] (.slice none 0 0) 24 elemRS9 zr (by decide) ze OW.out ze (by exact rdR_new (e:=31) (C:=#[.slice a2 L c2])) (by simp [Value.oneCell']) (by omega) (by omega) (by omega) ?_
  intro v5 w5 ho5 ha5 hb5
  obtain ⟨a5,c5,rfl⟩:=rows_hd ho5
  have O5:=zh ho5;have A5:=zh ha5;have B5:=zh hb5
  have R5:Hid (At w5 bk #[.slice asx M caps] 215):=zh (at_appd (((HROW.out.below B2.out (HV.out.lt bk HV.out.box))).alloc _) A5.out NE.out)
  clear ho5 ha5 hb5
  refine ⟨trivial,?_⟩
  (simp only [Mem.zp,Mem.pb,Mem.pc])
  refine plan_nilcheck _ ⟨bk,0,none⟩ zr zr zr ze ?_
  (simp only [Mem.zp,Mem.pb,Mem.pc])
  refine plan_field 215 _ 0 bk 0 ⟨bk,0,none⟩ zr zr zr ze (fun wx=>by go_simp) ?_
  (simp only [Mem.zp,Mem.pb,Mem.pc])
  refine plan_store_one 32 _ _ bk 0 (.slice a5 (M+1) c5) _ 215 zr zr zr zr ze ze zr infoSh9 R5.out (by simp) trivial ?_
  refine plan_nil ?_
  have E8:=zh (bk_add (v':=.slice a5 (M+1) c5) HV.out HE.out (by rw [←HM.out];exact HO.out) B2.out O2.out ((Below.refl _ w2).alloc (Nat.le_refl _) _) A5.out B5.out (by rw [←HM.out];exact O5.out) (R5.out.set 0 (.slice a5 (M+1) c5)) (fun k hk=>heap_setCell_other w5 ⟨bk,0,none⟩ k _ hk) (fun B a hB hle=>hB.setCell hle _))
  generalize w5.setCell ⟨bk,0,none⟩ (.slice a5 (M+1) c5)=w8 at *
  clear R5 A5 B5 O5 OW C2 C3 O2 B2 HO HE HROW C1 CL NE XL
  clear HV
  have S8:Hid (SlB G w8 (.slice a0 L c0) l):=zh (HV1.out.keep E8.out.2.size fun k hg hlt=>E8.out.2.block k hlt (HG.out k hg))
  have BX:Hid (Below x.heap.size x w1):=zh (HX.out.trans (HAL.out.mono HX.out.size))
  have BX8:Hid (Below x.heap.size x w8):=zh (E8.out.2.below BX.out.drew HF.out BX.out.size)
  have A8:Hid (At w8 w.heap.size Z 22):=zh (HAZ.out.drew.chg E8.out.2 fun hf=>Nat.lt_irrefl _ (FLT.out _ hf))
  have SLS:=zh (sls_lit1 S8.out.sl)
  have T8:=zh (HT.out.below (BX8.out.alloc BX8.out.size (.cells #[.slice a0 L c0] 31)) (Nat.le_refl _))
  have A9:=zh (A8.out.alloc (.cells #[.slice a0 L c0] 31))
  clear S8 BX BX8 A8
  go_wp2_with fail
  refine (SUM.out _ _ SLS.out T8.out).mono ?_
  rintro e w9 ⟨rfl,hb9⟩
  have A10:=zh (A9.out.below hb9 A9.out.lt)
  have B10:Hid (Below w8.heap.size w8 w9):=zh (((Below.refl _ w8).alloc (Nat.le_refl _) (.cells #[.slice a0 L c0] 31)).trans (hb9.mono (by simp)))
  clear hb9 SLS T8 A9
  go_wp2_with (refine wpList_store_all zr 22 _ _ zr zr w.heap.size G32 zr zr (by rw [GS.out];exact infoDg) Z _ A10.out (by rw [ZS.out,GS.out]) GO.out ?_)
  try simp only [Exit.inBlock,Exit.then]
  refine ret_row zr w.heap.size 22 G32 _ zr (A10.out.row G32) Tryz.underlying22 zr (by rw [GS.out];exact infoDg) ?_
  exact ⟨rfl,dig_end HAL.out FLT.out (by rw [HW1.out];simp) E8.out B10.out G32⟩
 ·refine plan_call 64 _ _ _ (by kernel_rfl) zr zr zr (by first | exact Mem.ev_none _ | (simp only [List.map_toArray,List.map_cons,List.map_nil,Mem.ev_tmp,List.getD_cons_succ,List.getD_cons_zero] <;> rfl)) ?_
  refine CL.out.mono ?_
  rintro o w2 ⟨v2,rfl,ho2,hb2⟩
  obtain ⟨a2,c2,rfl⟩:=own_hd9 ho2 XL.out
  have C2:Hid (w2.cell? ⟨bk,0,none⟩=some (.slice asx M caps)):=by have h:=C1.out;rw [hb2.cell (p:=⟨bk,0,none⟩) (HV.out.lt bk HV.out.box)];exact h
  have C3:Hid ((w2.alloc (.cells #[.slice a2 L c2] 31)).cell? ⟨bk,0,none⟩=some (.slice asx M caps)):=(cell_alloc (block_lt_of_cell C2.out)).trans C2.out
  have O2:=zh ho2;have B2:=zh hb2;have OW:=zh (ownsRow_below (ownsRow_below HO.out hb2) ((Below.refl _ w2).alloc (Nat.le_refl _) (.cells #[.slice a2 L c2] 31)))
  clear ho2 hb2
  refine ⟨_,rfl,trivial,?_⟩
  (simp only [Mem.zp,Mem.pb,Mem.pc])
  refine plan_two ?_ ?_
  ·refine plan_sole_cell 32 _ _ (.slice asx M caps) _ zr zr zr ze (by first | exact C1.out | exact C2.out | exact C3.out) Tryz.underlying32 zr trivial ?_
   (simp only [Mem.zp,Mem.pb,Mem.pc])
   refine plan_slice 32 31 1 _ #[.slice a2 L c2] zr zr zr Tryz.underlying32 (by kernel_rfl) trivial ?_
   (simp only [Mem.zp,Mem.pb,Mem.pc])
   refine plan_append_app _ _ 32 zr zr zr (.slice (some ⟨w2.heap.size,0,none⟩) 1 1) M 1 1 [.slice a2 L c2] (.slice none 0 0) 24 elemRS9 zr (by decide) ze OW.out ze (by exact rdR_new (e:=31) (C:=#[.slice a2 L c2])) (by simp [Value.oneCell']) (by omega) (by omega) (by omega) ?_
   intro v5 w5 ho5 ha5 hb5
   obtain ⟨a5,c5,rfl⟩:=rows_hd ho5
   have O5:=zh ho5;have A5:=zh ha5;have B5:=zh hb5
   have R5:Hid (At w5 bk #[.slice asx M caps] 215):=zh (at_appd (((HROW.out.below B2.out (HV.out.lt bk HV.out.box))).alloc _) A5.out NE.out)
   clear ho5 ha5 hb5
   refine ⟨trivial,?_⟩
   (simp only [Mem.zp,Mem.pb,Mem.pc])
   refine plan_nilcheck _ ⟨bk,0,none⟩ zr zr zr ze ?_
   (simp only [Mem.zp,Mem.pb,Mem.pc])
   refine plan_field 215 _ 0 bk 0 ⟨bk,0,none⟩ zr zr zr ze (fun wx=>by go_simp) ?_
   (simp only [Mem.zp,Mem.pb,Mem.pc])
   refine plan_store_one 32 _ _ bk 0 (.slice a5 (M+1) c5) _ 215 zr zr zr zr ze ze zr infoSh9 R5.out (by simp) trivial ?_
   refine plan_nil ?_
   have E8:=zh (bk_add (v':=.slice a5 (M+1) c5) HV.out HE.out (by rw [←HM.out];exact HO.out) B2.out O2.out ((Below.refl _ w2).alloc (Nat.le_refl _) _) A5.out B5.out (by rw [←HM.out];exact O5.out) (R5.out.set 0 (.slice a5 (M+1) c5)) (fun k hk=>heap_setCell_other w5 ⟨bk,0,none⟩ k _ hk) (fun B a hB hle=>hB.setCell hle _))
   generalize w5.setCell ⟨bk,0,none⟩ (.slice a5 (M+1) c5)=w8 at *
   clear R5 A5 B5 O5 OW C2 C3 O2 B2 HO HE HROW C1 CL NE XL
   clear HV
   have S8:Hid (SlB G w8 (.slice a0 L c0) l):=zh (HV1.out.keep E8.out.2.size fun k hg hlt=>E8.out.2.block k hlt (HG.out k hg))
   have BX:Hid (Below x.heap.size x w1):=zh (HX.out.trans (HAL.out.mono HX.out.size))
   have BX8:Hid (Below x.heap.size x w8):=zh (E8.out.2.below BX.out.drew HF.out BX.out.size)
   have A8:Hid (At w8 w.heap.size Z 22):=zh (HAZ.out.drew.chg E8.out.2 fun hf=>Nat.lt_irrefl _ (FLT.out _ hf))
   have SLS:=zh (sls_lit1 S8.out.sl)
   have T8:=zh (HT.out.below (BX8.out.alloc BX8.out.size (.cells #[.slice a0 L c0] 31)) (Nat.le_refl _))
   have A9:=zh (A8.out.alloc (.cells #[.slice a0 L c0] 31))
   clear S8 BX BX8 A8
   go_wp2_with fail
   refine (SUM.out _ _ SLS.out T8.out).mono ?_
   rintro e w9 ⟨rfl,hb9⟩
   have A10:=zh (A9.out.below hb9 A9.out.lt)
   have B10:Hid (Below w8.heap.size w8 w9):=zh (((Below.refl _ w8).alloc (Nat.le_refl _) (.cells #[.slice a0 L c0] 31)).trans (hb9.mono (by simp)))
   clear hb9 SLS T8 A9
   go_wp2_with (refine wpList_store_all zr 22 _ _ zr zr w.heap.size G32 zr zr (by rw [GS.out];exact infoDg) Z _ A10.out (by rw [ZS.out,GS.out]) GO.out ?_)
   try simp only [Exit.inBlock,Exit.then]
   refine ret_row zr w.heap.size 22 G32 _ zr (A10.out.row G32) Tryz.underlying22 zr (by rw [GS.out];exact infoDg) ?_
   exact ⟨rfl,dig_end HAL.out FLT.out (by rw [HW1.out];simp) E8.out B10.out G32⟩
  ·refine plan_slice 32 31 1 _ #[.slice a2 L c2] zr zr zr Tryz.underlying32 (by kernel_rfl) trivial ?_
   (simp only [Mem.zp,Mem.pb,Mem.pc])
   refine plan_sole_cell 32 _ _ (.slice asx M caps) _ zr zr zr ze (by first | exact C1.out | exact C2.out | exact C3.out) Tryz.underlying32 zr trivial ?_
   (simp only [Mem.zp,Mem.pb,Mem.pc])
   refine plan_append_app _ _ 32 zr zr zr (.slice (some ⟨w2.heap.size,0,none⟩) 1 1) M 1 1 [.slice a2 L c2] (.slice none 0 0) 24 elemRS9 zr (by decide) ze OW.out ze (by exact rdR_new (e:=31) (C:=#[.slice a2 L c2])) (by simp [Value.oneCell']) (by omega) (by omega) (by omega) ?_
   intro v5 w5 ho5 ha5 hb5
   obtain ⟨a5,c5,rfl⟩:=rows_hd ho5
   have O5:=zh ho5;have A5:=zh ha5;have B5:=zh hb5
   have R5:Hid (At w5 bk #[.slice asx M caps] 215):=zh (at_appd (((HROW.out.below B2.out (HV.out.lt bk HV.out.box))).alloc _) A5.out NE.out)
   clear ho5 ha5 hb5
   refine ⟨trivial,?_⟩
   (simp only [Mem.zp,Mem.pb,Mem.pc])
   refine plan_nilcheck _ ⟨bk,0,none⟩ zr zr zr ze ?_
   (simp only [Mem.zp,Mem.pb,Mem.pc])
   refine plan_field 215 _ 0 bk 0 ⟨bk,0,none⟩ zr zr zr ze (fun wx=>by go_simp) ?_
   (simp only [Mem.zp,Mem.pb,Mem.pc])
   refine plan_store_one 32 _ _ bk 0 (.slice a5 (M+1) c5) _ 215 zr zr zr zr ze ze zr infoSh9 R5.out (by simp) trivial ?_
   refine plan_nil ?_
   have E8:=zh (bk_add (v':=.slice a5 (M+1) c5) HV.out HE.out (by rw [←HM.out];exact HO.out) B2.out O2.out ((Below.refl _ w2).alloc (Nat.le_refl _) _) A5.out B5.out (by rw [←HM.out];exact O5.out) (R5.out.set 0 (.slice a5 (M+1) c5)) (fun k hk=>heap_setCell_other w5 ⟨bk,0,none⟩ k _ hk) (fun B a hB hle=>hB.setCell hle _))
   generalize w5.setCell ⟨bk,0,none⟩ (.slice a5 (M+1) c5)=w8 at *
   clear R5 A5 B5 O5 OW C2 C3 O2 B2 HO HE HROW C1 CL NE XL
   clear HV
   have S8:Hid (SlB G w8 (.slice a0 L c0) l):=zh (HV1.out.keep E8.out.2.size fun k hg hlt=>E8.out.2.block k hlt (HG.out k hg))
   have BX:Hid (Below x.heap.size x w1):=zh (HX.out.trans (HAL.out.mono HX.out.size))
   have BX8:Hid (Below x.heap.size x w8):=zh (E8.out.2.below BX.out.drew HF.out BX.out.size)
   have A8:Hid (At w8 w.heap.size Z 22):=zh (HAZ.out.drew.chg E8.out.2 fun hf=>Nat.lt_irrefl _ (FLT.out _ hf))
   have SLS:=zh (sls_lit1 S8.out.sl)
   have T8:=zh (HT.out.below (BX8.out.alloc BX8.out.size (.cells #[.slice a0 L c0] 31)) (Nat.le_refl _))
   have A9:=zh (A8.out.alloc (.cells #[.slice a0 L c0] 31))
   clear S8 BX BX8 A8
   go_wp2_with fail
   refine (SUM.out _ _ SLS.out T8.out).mono ?_
   rintro e w9 ⟨rfl,hb9⟩
   have A10:=zh (A9.out.below hb9 A9.out.lt)
   have B10:Hid (Below w8.heap.size w8 w9):=zh (((Below.refl _ w8).alloc (Nat.le_refl _) (.cells #[.slice a0 L c0] 31)).trans (hb9.mono (by simp)))
   clear hb9 SLS T8 A9
   go_wp2_with (refine wpList_store_all zr 22 _ _ zr zr w.heap.size G32 zr zr (by rw [GS.out];exact infoDg) Z _ A10.out (by rw [ZS.out,GS.out]) GO.out ?_)
   try simp only [Exit.inBlock,Exit.then]
   refine ret_row zr w.heap.size 22 G32 _ zr (A10.out.row G32) Tryz.underlying22 zr (by rw [GS.out];exact infoDg) ?_
   exact ⟨rfl,dig_end HAL.out FLT.out (by rw [HW1.out];simp) E8.out B10.out G32⟩
theorem txt_add {D:Foot} {wr w2 w3 w5:World} {v v' v2:Value} {x:Lb8} {l:List (Lb8)} {hs:List Value} {B:Nat} (he:Each2 (fun p q=>SlB D wr p q) hs l) (hown:wr.ownsRow B 31 1 v l.length hs) (hd:∀ k,D k→k < wr.heap.size∧v.ownBlock≠some k)
 (hb:Below wr.heap.size wr w2) (ho:OwnB w2 wr.heap.size v2 x) (hb2:Below w2.heap.size w2 w3) (ha:App w3 w5 v v') :
 ∃ D':Foot,Each2 (fun p q=>SlB D' w5 p q) (hs++[v2]) (l++[x])∧∀ k,D' k→k < w5.heap.size∧v'.ownBlock≠some k:=by
 have hb3:Below wr.heap.size wr w3:=hb.trans (hb2.mono hb.size)
 have z3:=hb3.size
 have z2:=hb2.size
 have z5:=ha.size
 have s2:SlB (fun k=>D k∨v2.ownBlock=some k) w3 v2 x:=by
  have h0:SlB (fun k=>D k∨v2.ownBlock=some k) w2 v2 x:=by
   refine ⟨by simp [u8s_length],?_⟩
   obtain ⟨a,cap,e,hc,hr⟩:=ho.open
   refine ⟨a,cap,e,hc,fun hne=>?_⟩
   obtain ⟨g,ea,_,hlt,hcell⟩:=hr (fun h0=>hne (by rw [h0];rfl))
   refine ⟨g,0,ea,.inr (by rw [e,ea];rfl),hlt,fun j u hu=>?_⟩
   have hj:j < x.length:=by
    have:=(List.getElem?_eq_some_iff.1 hu).1
    rwa [u8s_length] at this
   rw [Nat.zero_add,hcell j hj,←u8s_get x j hj,hu]
  exact h0.keep hb2.size fun k _ hlt=>hb2.block k hlt
 have e3:Each2 (fun p q=>SlB (fun k=>D k∨v2.ownBlock=some k) w3 p q) (hs++[v2]) (l++[x]):=
  Each2.snoc s2 (he.mono fun _ _ g=>(g.keep hb3.size fun k _ hlt=>hb3.block k hlt).mono fun _ hk _=>.inl hk)
 have hd':∀ k,(D k∨v2.ownBlock=some k)→k < w3.heap.size∧v.ownBlock≠some k:=fun k hk=>by
  rcases hk with hk | hk
  ·exact ⟨Nat.lt_of_lt_of_le (hd k hk).1 z3,(hd k hk).2⟩
  ·have h6:=ho.lt k hk
   refine ⟨by omega,fun e=>?_⟩
   have:=(World.ownsRow.lt hown k e).2
   omega
 refine ⟨fun k=>D k∨v2.ownBlock=some k,e3.mono fun _ _ g=>g.keep z5 fun k hk hlt=>ha.k k hlt (hd' k hk).2,fun k hk=>?_⟩
 obtain ⟨h1,h2⟩:=hd' k hk
 refine ⟨by omega,fun e=>?_⟩
 rcases ha.b with e2 | ⟨g,e2,hg⟩
 ·rw [e2] at e;exact h2 e
 ·rw [e2] at e
  have:g=k:=by simpa using e
  omega
theorem own_sls {D:Foot} {w:World} {v:Value} {l:List (Lb8)} {hs:List Value} {B:Nat} (he:Each2 (fun p q=>SlB D w p q) hs l) (hown:w.ownsRow B 31 1 v l.length hs):Sls w v l:=by
 have hR:=ownsRow_slR hown
 obtain ⟨hl,a,cap,rfl,hc,hr⟩:=hR
 refine ⟨a,cap,rfl,hc,fun hne=>?_⟩
 obtain ⟨bb,oo,ea,_,hlt,hcell⟩:=hr (fun h0=>hne (List.eq_nil_of_length_eq_zero h0))
 refine ⟨bb,oo,ea,hlt,fun i hi=>?_⟩
 obtain ⟨u,hu,hs2⟩:=Each2.at he (i:=i) (y:=l.getD i []) (by rw [List.getD_eq_getElem?_getD,List.getElem?_eq_getElem hi];rfl)
 exact ⟨u,hcell i u hu,hs2.sl⟩
theorem pdig_any {F G:Foot} {bp:Value} {ts:List (Lb8)} (l:Lb8) (v:Value) (w x:World) (hr:BkO F bp w ts) (hn:ts.length < 100000) (hv:SlB G w v l) (hG:∀ k,G k→¬ F k) (hp:l.length≤1000000) (hT:Tabs x) (hxw:Below x.heap.size x w) (hF:∀ k,F k→x.heap.size≤k) :
 Calls Tryz.prog 105 #[bp,v] w fun e w'=>e=.returned (.agg (u8s (digestOf l)).toArray)∧BkEnd F bp w (ts++[l]) w':=by
 rcases hr with ⟨rfl,hnF⟩ | ⟨bk,rfl,hb⟩
 ·refine (pdigN_any l v w hv.sl (by omega) (hT.below hxw (Nat.le_refl _))).mono ?_
  rintro e w' ⟨rfl,hb⟩
  exact ⟨rfl,⟨F,.inl ⟨rfl,hnF⟩,fun k hk=>.inl hk⟩,Chg.of_below hb⟩
 ·refine (pdigB_any l v w x hb hn hv hG hp hT hxw hF).mono ?_
  rintro e w' ⟨rfl,⟨F',h1,h2⟩,hc⟩
  exact ⟨rfl,⟨F',.inr ⟨bk,rfl,h1⟩,h2⟩,hc⟩
def HideEnd (F:Foot) (bp:Value) (w:World) (l:Lb8) (r:RefV) (n:Int) (ts:List (Lb8)) (e:Ending) (w':World):Prop:=
 ∃ v F',e=.returned (.tuple #[v,.agg (refC r),.int .i64 n])∧SlB (fun k=>w.heap.size≤k∧¬ F' k) w' v l∧BkO F' bp w' ts∧(∀ k,F' k→F k∨w.heap.size≤k)∧Chg F w w'
def OpenEnd (F:Foot) (bp:Value) (w:World) (l:Lb8) (n:Int) (ts:List (Lb8)) (e:Ending) (w':World):Prop:=
 ∃ v F',e=.returned (.tuple #[v,.int .i64 n])∧SlB (fun k=>w.heap.size≤k∧¬ F' k) w' v l∧BkO F' bp w' ts∧(∀ k,F' k→F k∨w.heap.size≤k)∧Chg F w w'
theorem hide_end {F:Foot} {bp v3:Value} {w w3 w4:World} {g:Nat} {ts:List (Lb8)} {L:Lb8} (hFl:∀ k,F k→k < w.heap.size) (b3:Below w.heap.size w w3) (hg:w.heap.size≤g) (hg3:g < w3.heap.size) (hs:SlB (fun k=>g < k) w3 v3 L) (hk:BkEnd F bp w3 ts w4) (M:Array Value) :
 ∃ F',SlB (fun k=>w.heap.size≤k∧¬ F' k) (w4.setRow g M) v3 L∧BkO F' bp (w4.setRow g M) ts∧(∀ k,F' k→F k∨w.heap.size≤k)∧Chg F w (w4.setRow g M):=by
 obtain ⟨⟨F',h1,h2⟩,hc⟩:=hk
 have hz:=b3.size
 refine ⟨F',?_,h1.keep (by simp) fun k hk _=>setRow_other w4 _ k M fun e=>?_,fun k hk=>?_,?_⟩
 ·have s3:SlB (fun k=>g < k∧k < w3.heap.size) w3 v3 L:=hs.mono fun k hk hlt=>⟨hk,hlt⟩
  have s4:SlB (fun k=>g < k∧k < w3.heap.size) w4 v3 L:=s3.keep hc.size fun k hk hlt=>hc.block k hlt fun hf=>by have:=hFl k hf;omega
  have s5:SlB (fun k=>g < k∧k < w3.heap.size) (w4.setRow g M) v3 L:=s4.keep (by simp) fun k hk _=>setRow_other w4 _ k M (by omega)
  refine s5.mono fun k hk _=>⟨by omega,fun hf=>?_⟩
  rcases h2 k hf with h | h
  ·have:=hFl k h;omega
  ·omega
 ·subst e
  rcases h2 k hk with h | h
  ·have:=hFl k h;omega
  ·omega
 ·rcases h2 k hk with h | h
  ·exact .inl h
  ·exact .inr (by omega)
 ·exact ((Chg.of_below b3).trans (F1:=F) hc fun x hx=>.inl hx).trans (F1:=fun k=>k=g) ⟨rfl,rfl,rfl,by simp,fun k _ hn=>setRow_other w4 _ k M hn⟩ fun x hx=>.inr (by omega)
theorem buildPf3 (p:Int) (e:BitVec 32) (dg:Lb8) (h:dg.length=32) (w:World):(Instr.build 38 #[(0,.int .i64 p),(1,.int .u32 (V e)),(2,.agg (u8s dg).toArray)]).run Tryz.prog w=.ok (.agg (refC ⟨p,e,dg⟩)) w:=by
 match dg,h with
 | [a0,a1,a2,a3,a4,a5,a6,a7,a8,a9,a10,a11,a12,a13,a14,a15,a16,a17,a18,a19,a20,a21,a22,a23,a24,a25,a26,a27,a28,a29,a30,a31],_=>exact run_build w _ _ _ (by kernel_rfl)
theorem phide_any {F:Foot} {bp:Value} {ts:List (Lb8)} (key:Lb8) (lk:key.length=32) (ep:BitVec 32) (place block:Int) (hbk:block≤9223372036854775807) (page:Lb8) (v:Value) (w x:World) (hr:BkO F bp w ts) (hn:ts.length < 100000) (hv:Sl w v page) (hp:page.length≤1000000) (hT:Tabs x) (hC9:CTabs x) (hxw:Below x.heap.size x w) (hF:∀ k,F k→x.heap.size≤k) :
 Calls Tryz.prog 79 #[bp,.agg (u8s key).toArray,.int .u32 (V ep),.int .i64 place,.int .i64 block,v] w (HideEnd F bp w (hideR key ep place block page).1 (hideR key ep place block page).2.1 (hideR key ep place block page).2.2 (if (hideR key ep place block page).2.2=0 then ts++[(hideR key ep place block page).1] else ts)):=by
 have sl:=fun wx (h:Below w.heap.size w wx)=>pseal_any key lk ep block hbk page v wx (hv.below h) (by omega) (hC9.below (hxw.trans (h.mono hxw.size)) (Nat.le_refl _))
 have pl:=fun wx=>pisPlace_any place wx
 have flt:=hr.lt
 obtain ⟨C,hC⟩:∃ C,C=(u8s key).toArray:=⟨_,rfl⟩
 have cs:C.size=32:=by rw [hC];simp [u8s_length,lk]
 rw [←hC] at sl ⊢
 obtain ⟨Z,hZ⟩:∃ Z,Z=refC zref:=⟨_,rfl⟩
 have zs:Z.size=34:=by rw [hZ];exact refC_size zref_wf
 have zo:Z.all (·.oneCell')=true:=by rw [hZ];exact refC_one _
 have hx:∀ w,(zeroValue 38).run Tryz.prog w=.ok (.agg Z) w:=by rw [hZ];exact zeroRfP
 have bn:∀ w,(Instr.build 38 #[]).run Tryz.prog w=.ok (.agg Z) w:=by rw [hZ];exact buildPf0
 have ak:=(at_new w C 22).alloc (.cells Z 38)
 have az:At ((w.alloc (.cells C 22)).alloc (.cells Z 38)) (w.heap.size+1) Z 38:=by
  have h:=at_new (w.alloc (.cells C 22)) Z 38
  simpa using h
 have bz:Below w.heap.size w ((w.alloc (.cells C 22)).alloc (.cells Z 38)):=((Below.refl _ _).alloc (Nat.le_refl _) _).alloc (by simp) _
 have wz:((w.alloc (.cells C 22)).alloc (.cells Z 38)).heap.size=w.heap.size+2:=by simp
 have BAD:Hid (∀ w':World,Below w.heap.size w w'→HideEnd F bp w [] zref 1 ts (.returned (.tuple #[.slice none 0 0,.agg Z,.int .i64 1])) w'):=zh fun w' hb=>⟨_,F,by rw [hZ],slB_nil _ _,hr.below hb,fun k hk=>.inl hk,Chg.of_below hb⟩
 by_cases hpl:place < 0∨1 < place
 ·have e1:hideR key ep place block page=([],zref,1):=by simp [hideR,hpl]
  rw [e1]
  have e2:decide (place < 0∨1 < place)=true:=by simp [hpl]
  rw [e2] at pl
  have PL:=zh pl;have ZS:=zh zs;have ZO:=zh zo;have BN:=zh bn;have AZ:=zh az;have BZ:=zh bz
  clear sl pl cs zs zo bn ak az bz wz hC hZ hpl e1 e2 hr hn hv hp hT hC9 hxw hF lk flt hbk
  show Calls _ _ _ _ (HideEnd F bp w [] zref 1 (if (1:Int)=0 then _ else ts))
  rw [if_neg (by decide)]
  go_enter Tryz.func79,Tryz.ntmps79
  go_upto_region 1 with fail
  clear hx
  generalize (w.alloc (.cells C 22)).alloc (.cells Z 38)=w1 at *
  go_wp2_with fail
  refine (PL.out _).mono ?_
  rintro e w2 ⟨rfl,hb2⟩
  have AZ2:=zh (AZ.out.below hb2 AZ.out.lt);have B2:=zh (BZ.out.trans (hb2.mono BZ.out.size))
  clear hb2 AZ BZ PL
  go_wp2_with (first
   | (refine Mem.wpList_build zr 38 _ #[] (.agg Z) zr (by simp) BN.out ?_)
   | (refine wpList_store_all zr 38 _ _ zr zr (w.heap.size+1) Z zr zr (by rw [ZS.out];exact infoRfP) Z 38 AZ2.out zr ZO.out ?_))
  try simp only [Exit.inBlock,Exit.then]
  refine ret_tmp_row_tmp zr (w.heap.size+1) 38 Z _ (.slice none 0 0) (.int .i64 1) zr zr zr (AZ2.out.row Z) Tryz.underlying38 zr (by rw [ZS.out];exact infoRfP) ?_
  exact BAD.out _ (below_row B2.out (Nat.le_succ _) Z)
 ·have e2:decide (place < 0∨1 < place)=false:=by simp [hpl]
  rw [e2] at pl
  by_cases hb:sealBad block page=true
  ·have e1:hideR key ep place block page=([],zref,1):=by simp [hideR,hb]
   have e3:sealR key ep block page=([],1):=by simp [sealR,hb]
   rw [e3] at sl
   rw [e1]
   have PL:=zh pl;have SL:=zh sl;have CS:=zh cs;have ZS:=zh zs;have ZO:=zh zo;have BN:=zh bn;have AK:=zh ak;have AZ:=zh az;have BZ:=zh bz
   clear sl pl cs zs zo bn ak az bz wz hC hZ hpl e1 e2 e3 hb hr hn hv hp hT hC9 hxw hF lk flt hbk
   show Calls _ _ _ _ (HideEnd F bp w [] zref 1 (if (1:Int)=0 then _ else ts))
   rw [if_neg (by decide)]
   go_enter Tryz.func79,Tryz.ntmps79
   go_upto_region 1 with fail
   clear hx
   generalize (w.alloc (.cells C 22)).alloc (.cells Z 38)=w1 at *
   go_wp2_with fail
   refine (PL.out _).mono ?_
   rintro e w2 ⟨rfl,hb2⟩
   have AK2:=zh (AK.out.below hb2 AK.out.lt);have AZ2:=zh (AZ.out.below hb2 AZ.out.lt);have B2:=zh (BZ.out.trans (hb2.mono BZ.out.size))
   clear hb2 AZ AK BZ PL
   go_wp2_with (refine wpList_load_all zr 22 _ zr w.heap.size zr _ Tryz.underlying22 zr C _ AK2.out (by rw [CS.out];exact infoDg) ?_)
   refine (SL.out w2 B2.out).mono ?_
   rintro e w3 ⟨v3,rfl,_,hb3⟩
   have AZ3:=zh (AZ2.out.below hb3 AZ2.out.lt);have B3:=zh (B2.out.trans (hb3.mono B2.out.size))
   clear hb3 AZ2 AK2 B2 SL
   go_wp2_with (first
    | (refine Mem.wpList_build zr 38 _ #[] (.agg Z) zr (by simp) BN.out ?_)
    | (refine wpList_store_all zr 38 _ _ zr zr (w.heap.size+1) Z zr zr (by rw [ZS.out];exact infoRfP) Z 38 AZ3.out zr ZO.out ?_))
   try simp only [Exit.inBlock,Exit.then]
   refine ret_tmp_row_tmp zr (w.heap.size+1) 38 Z _ (.slice none 0 0) (.int .i64 1) zr zr zr (AZ3.out.row Z) Tryz.underlying38 zr (by rw [ZS.out];exact infoRfP) ?_
   exact BAD.out _ (below_row B3.out (Nat.le_succ _) Z)
  ·clear BAD bn
   have e3:sealR key ep block page=(sealL key ep block page,0):=by simp [sealR,hb]
   rw [e3] at sl
   obtain ⟨L,hL⟩:∃ L,L=sealL key ep block page:=⟨_,rfl⟩
   rw [←hL] at sl
   have e1:hideR key ep place block page=(L,⟨place,ep,digestOf L⟩,0):=by simp [hideR,hb,hpl,hL]
   rw [e1]
   have hln:L.length=256:=by rw [hL,sealL_length];simp [sealBad] at hb;omega
   have dg:=fun (wx:World) (vx:Value) (h:Below w.heap.size w wx) (hs:SlB (fun k=>w.heap.size≤k) wx vx L)=>pdig_any L vx wx x (hr.below h) hn hs (fun k hk hf=>by have:=flt k hf;omega) (by omega) hT (hxw.trans (h.mono hxw.size)) hF
   obtain ⟨D,hD⟩:∃ D,D=(u8s (digestOf L)).toArray:=⟨_,rfl⟩
   have b3:∀ wx,(Instr.build 38 #[(0,.int .i64 place),(1,.int .u32 (V ep)),(2,.agg D)]).run Tryz.prog wx=.ok (.agg (refC ⟨place,ep,digestOf L⟩)) wx:=fun wx=>by rw [hD];exact buildPf3 place ep (digestOf L) (digestOf_length _) wx
   rw [←hD] at dg
   obtain ⟨M,hM⟩:∃ M,M=refC ⟨place,ep,digestOf L⟩:=⟨_,rfl⟩
   have ms:M.size=34:=by rw [hM];exact refC_size (wf_dig place ep L (by omega) (by omega))
   have mo:M.all (·.oneCell')=true:=by rw [hM];exact refC_one _
   rw [←hM] at b3
   have PL:=zh pl;have SL:=zh sl;have DG:=zh dg;have B3:=zh b3;have HM:=zh hM;have MS:=zh ms;have MO:=zh mo;have CS:=zh cs;have ZS:=zh zs;have AK:=zh ak;have AZ:=zh az;have BZ:=zh bz;have WZ:=zh wz;have FLT:=zh flt;have LN:=zh hln
   clear sl pl dg b3 hM ms mo cs zs zo ak az bz wz hC hZ hpl e1 e2 e3 hb hr hn hv hp hT hC9 hxw hF lk flt hD hln hbk hL
   show Calls _ _ _ _ (HideEnd F bp w L ⟨place,ep,digestOf L⟩ 0 (if (0:Int)=0 then ts++[L] else ts))
   rw [if_pos rfl]
   go_enter Tryz.func79,Tryz.ntmps79
   go_upto_region 1 with fail
   clear hx
   generalize (w.alloc (.cells C 22)).alloc (.cells Z 38)=w1 at *
   go_wp2_with fail
   refine (PL.out _).mono ?_
   rintro e w2 ⟨rfl,hb2⟩
   have AK2:=zh (AK.out.below hb2 AK.out.lt);have AZ2:=zh (AZ.out.below hb2 AZ.out.lt);have B2:=zh (BZ.out.trans (hb2.mono BZ.out.size));have W2:Hid (w.heap.size+2≤w2.heap.size):=zh (by rw [←WZ.out];exact hb2.size)
   clear hb2 AZ AK BZ PL WZ
   go_wp2_with (refine wpList_load_all zr 22 _ zr w.heap.size zr _ Tryz.underlying22 zr C _ AK2.out (by rw [CS.out];exact infoDg) ?_)
   refine (SL.out w2 B2.out).mono ?_
   rintro e w3 ⟨v3,rfl,hs3,hb3⟩
   have AZ3:=zh (AZ2.out.below hb3 AZ2.out.lt);have B4:=zh (B2.out.trans (hb3.mono B2.out.size));have S3:Hid (SlB (fun k=>w.heap.size+1 < k) w3 v3 L):=zh (hs3.mono fun k hk _=>by have:=W2.out;omega);have W3:Hid (w.heap.size+2≤w3.heap.size):=zh (Nat.le_trans W2.out hb3.size)
   clear hb3 hs3 AZ2 AK2 B2 SL W2
   go_wp2_with fail
   refine (DG.out w3 v3 B4.out (S3.out.mono fun k hk _=>by omega)).mono ?_
   rintro e w4 ⟨rfl,hk4⟩
   have AZ4:=zh (AZ3.out.chg hk4.2 fun hf=>by have:=FLT.out _ hf;omega)
   have HE:=zh (hide_end FLT.out B4.out (Nat.le_succ _) (by have:=W3.out;omega) S3.out hk4 M)
   clear hk4 AZ3 B4 S3 W3 DG
   go_wp2_with (first
    | (refine Mem.wpList_build zr 38 _ #[(0,.int .i64 place),(1,.int .u32 (V ep)),(2,.agg D)] (.agg M) zr (by simp [Act.eval]) B3.out ?_)
    | (refine wpList_store_all zr 38 _ _ zr zr (w.heap.size+1) M zr zr (by rw [MS.out];exact infoRfP) Z 38 AZ4.out (by rw [ZS.out,MS.out]) MO.out ?_))
   try simp only [Exit.inBlock,Exit.then]
   refine ret_tmp_row_tmp zr (w.heap.size+1) 38 M _ v3 (.int .i64 0) zr zr zr (AZ4.out.row M) Tryz.underlying38 zr (by rw [MS.out];exact infoRfP) ?_
   obtain ⟨F',h1,h2,h3,h4⟩:=HE.out
   exact ⟨_,F',by rw [HM.out],h1,h2,h3,h4⟩
theorem popen_any {F G:Foot} {bp:Value} {ts:List (Lb8)} (key:Lb8) (lk:key.length=32) (r:RefV) (hrw:r.Wf) (block:Int) (hbk:block≤9223372036854775807) (l:Lb8) (v:Value) (w x:World) (hr:BkO F bp w ts) (hn:ts.length < 100000) (hv:SlB G w v l) (hG:∀ k,G k→¬ F k) (hp:l.length≤1000000) (hT:Tabs x) (hC9:CTabs x) (hxw:Below x.heap.size x w) (hF:∀ k,F k→x.heap.size≤k) :
 Calls Tryz.prog 94 #[bp,.agg (u8s key).toArray,.agg (refC r),.int .i64 block,v] w (OpenEnd F bp w (openR key r block l).1 (openR key r block l).2 (if sealBad block l then ts else ts++[l])):=by
 have ib:=fun wx (h:Below w.heap.size w wx)=>pisBlock_any block l v wx (hv.sl.below h)
 have flt:=hr.lt
 have rs:=refC_size hrw
 have r1:=ref1 r
 have rdg:=ref_dgRow hrw
 obtain ⟨M,hM⟩:∃ M,M=refC r:=⟨_,rfl⟩
 rw [←hM] at rs r1 rdg ⊢
 obtain ⟨C,hC⟩:∃ C,C=(u8s key).toArray:=⟨_,rfl⟩
 have cs:C.size=32:=by rw [hC];simp [u8s_length,lk]
 have hCC:=hC
 rw [←hC]
 have ak:=(at_new w C 22).alloc (.cells M 38)
 have am:At ((w.alloc (.cells C 22)).alloc (.cells M 38)) (w.heap.size+1) M 38:=by
  have h:=at_new (w.alloc (.cells C 22)) M 38
  simpa using h
 have ba:Below w.heap.size w ((w.alloc (.cells C 22)).alloc (.cells M 38)):=((Below.refl _ _).alloc (Nat.le_refl _) _).alloc (by simp) _
 have wz:((w.alloc (.cells C 22)).alloc (.cells M 38)).heap.size=w.heap.size+2:=by simp
 by_cases hb:sealBad block l=true
 ·have e1:openR key r block l=([],1):=by simp [openR,hb]
  rw [e1,if_pos hb]
  rw [hb] at ib
  have BAD:Hid (∀ w':World,Below w.heap.size w w'→OpenEnd F bp w [] 1 ts (.returned (.tuple #[.slice none 0 0,.int .i64 1])) w'):=zh fun w' hb=>⟨_,F,rfl,slB_nil _ _,hr.below hb,fun k hk=>.inl hk,Chg.of_below hb⟩
  have IB:=zh ib;have BA:=zh ba
  clear ib ba ak am wz cs rs r1 rdg hM hC hCC hb e1 hr hn hv hG hp hT hC9 hxw hF lk flt hbk hrw
  go_enter Tryz.func94,Tryz.ntmps94
  go_wp2_with fail
  refine (IB.out _ BA.out).mono ?_
  rintro e w2 ⟨rfl,hb2⟩
  have B2:=zh (BA.out.trans (hb2.mono BA.out.size))
  clear hb2 BA IB
  go_wp2_with fail
  go_ret2
  exact BAD.out _ B2.out
 ·have hb':sealBad block l=false:=by simpa using hb
  rw [if_neg hb]
  rw [hb'] at ib
  have h0:0≤block:=by simp [sealBad] at hb';omega
  have dg:=fun (wx:World) (h:Below w.heap.size w wx)=>pdig_any l v wx x (hr.below h) hn (hv.keep h.size fun k _ hlt=>h.block k hlt) hG hp hT (hxw.trans (h.mono hxw.size)) hF
  have hne:=fun (x y:Operand) wx=>neqDg (digestOf l) r.dg (digestOf_length l) hrw.dg x y wx
  obtain ⟨D,hD⟩:∃ D,D=(u8s (digestOf l)).toArray:=⟨_,rfl⟩
  obtain ⟨E,hE⟩:∃ E,E=(u8s r.dg).toArray:=⟨_,rfl⟩
  rw [←hD] at dg
  rw [←hD,←hE] at hne
  rw [←hE] at rdg
  by_cases h3:digestOf l=r.dg
  ·have e1:openR key r block l=(sealL key r.ep block l,0):=by simp [openR,hb',h3]
   rw [e1]
   have hq:(!(digestOf l == r.dg))=false:=by simp [h3]
   rw [hq] at hne
   obtain ⟨ep,hep⟩:∃ ep,ep=r.ep:=⟨_,rfl⟩
   rw [←hep] at r1 ⊢
   have tn:=fun wx (h:SlB G wx v l) (ht:CTabs wx)=>pturn_any key lk ep block h0 hbk l v wx h.sl (by omega) ht
   rw [←hCC] at tn
   obtain ⟨L,hL⟩:∃ L,L=sealL key ep block l:=⟨_,rfl⟩
   rw [←hL] at tn ⊢
   have IB:=zh ib;have BA:=zh ba;have DG:=zh dg;have NE:=zh hne;have TN:=zh tn;have RS:=zh rs;have R1:=zh r1;have RDG:=zh rdg;have CS:=zh cs;have AK:=zh ak;have AM:=zh am;have WZ:=zh wz;have FLT:=zh flt;have HV:=zh hv;have HG:=zh hG;have HT:=zh hC9;have HX:=zh hxw;have HF:=zh hF
   clear ib ba dg hne tn rs r1 rdg cs ak am wz flt hv hG hT hC9 hxw hF hM hC hCC hb hb' e1 hr hn hp lk hbk hrw hD hE hL h3 hq hep h0
   go_enter Tryz.func94,Tryz.ntmps94
   go_wp2_with fail
   obtain ⟨b1,hb1⟩:∃ b1,b1=w.heap.size:=⟨_,rfl⟩
   refine (IB.out _ BA.out).mono ?_
   rintro e w2 ⟨rfl,hb2⟩
   have AK2:=zh (AK.out.below hb2 AK.out.lt);have AM2:=zh (AM.out.below hb2 AM.out.lt);have B2:=zh (BA.out.trans (hb2.mono BA.out.size));have W2:Hid (w.heap.size+2≤w2.heap.size):=zh (by rw [←WZ.out];exact hb2.size)
   clear hb2 BA IB AK AM WZ
   rw [←hb1] at AK2 AM2
   go_wp2_with fail
   rw [←hb1]
   have M2:Hid (At w2.drew (b1+1) M 38):=AM2
   refine wp_region_plan_in (fun y=>At y (b1+1) M 38) (.take 0 (.take 1 (.take 3 (.take 4 (.sole 2 (.take 5 .done)))))) (by kernel_rfl) (by kernel_rfl) (by kernel_rfl) M2.out ?_
   iterate 2 ((first | refine Mem.pm1 ?_ | refine Mem.pm2 ?_ | refine Mem.pt ?_ | refine Mem.pf ?_);(simp only [Mem.zp,Mem.pb,Mem.pc]))
   refine plan_field 38 _ 2 (b1+1) 0 ⟨b1+1,2,none⟩ (by rfl) (by rfl) (by rfl) ze (fun wx=>by go_simp) ?_
   (simp only [Mem.zp,Mem.pb,Mem.pc])
   refine plan_row_at 22 _ (b1+1) 2 32 _ M E 38 (by rfl) (by rfl) (by rfl) ze (fun w' hw'=>hw') Tryz.underlying22 zr infoDg (by rw [RS.out];decide) RDG.out ?_
   (simp only [Mem.zp,Mem.pb,Mem.pc])
   refine plan_call 105 _ _ _ (by kernel_rfl) (by rfl) (by rfl) (by rfl) (by first | exact Mem.ev_none _ | (simp only [List.map_toArray,List.map_cons,List.map_nil,Mem.ev_tmp,List.getD_cons_succ,List.getD_cons_zero] <;> rfl)) ?_
   refine (DG.out w2.drew B2.out.drew).mono ?_
   rintro o3 w3 ⟨rfl,hk3⟩
   have nF:∀ k,b1≤k→¬ F k:=fun k hk hf=>by have:=FLT.out k hf;omega
   have AK3:=zh ((AK2.out.drew).chg hk3.2 (nF _ (Nat.le_refl _)));have AM3:=zh ((AM2.out.drew).chg hk3.2 (nF _ (Nat.le_succ _)));have K3:=zh hk3
   have HV3:Hid (SlB G w3 v l):=zh ((HV.out.keep B2.out.size fun k _ hlt=>B2.out.block k hlt).keep hk3.2.size fun k hg hlt=>hk3.2.block k hlt (HG.out k hg))
   clear hk3 nF
   refine ⟨_,rfl,AM3.out,?_⟩
   (simp only [Mem.zp,Mem.pb,Mem.pc])
   refine plan_bin _ _ _ _ _ _ _ (.bool false) (by rfl) (by rfl) (by rfl) ze ze (fun wx=>NE.out _ _ wx) ?_
   (simp only [Mem.zp,Mem.pb,Mem.pc])
   refine plan_nil ?_
   have f1:w3.cell? ⟨b1+1,1,none⟩=some (.int .u32 (V ep)):=(AM3.out.cell 1).trans R1.out
   rw [hb1] at f1
   have T3:Hid (CTabs w3):=zh (HT.out.below (K3.out.2.below (HX.out.trans ((B2.out.drew).mono HX.out.size)) HF.out (Nat.le_trans HX.out.size B2.out.size)) (Nat.le_refl _))
   clear AK2 AM2 M2
   go_wp2_with (refine wpList_load_all zr 22 _ zr b1 (by rw [hb1];rfl) _ Tryz.underlying22 zr C _ AK3.out (by rw [CS.out];exact infoDg) ?_)
   refine (TN.out w3 HV3.out T3.out).mono ?_
   rintro e w4 ⟨v4,rfl,hs4,hb4⟩
   have S4:=zh hs4;have B4:=zh hb4
   clear hs4 hb4 f1
   go_wp2_with fail
   go_ret2
   obtain ⟨⟨F',h1,h2⟩,hc⟩:=K3.out
   have hz:=B2.out.size
   have hz3:=hc.size
   refine ⟨_,F',rfl,S4.out.mono fun k hk _=>⟨?_,fun hf=>?_⟩,h1.below B4.out,fun k hk=>?_,?_⟩
   ·exact Nat.le_trans hz (Nat.le_trans hz3 hk)
   ·have:=h1.lt k hf;omega
   ·rcases h2 k hk with g | g
    ·exact .inl g
    ·exact .inr (Nat.le_trans hz g)
   ·exact (((Chg.of_below B2.out).drew).trans (F1:=F) hc fun _ hx=>.inl hx).trans (F1:=F) (Chg.of_below B4.out) fun _ hx=>.inl hx
  ·have e1:openR key r block l=([],9):=by simp [openR,hb',h3]
   rw [e1]
   have hq:(!(digestOf l == r.dg))=true:=by simp [h3]
   rw [hq] at hne
   have IB:=zh ib;have BA:=zh ba;have DG:=zh dg;have NE:=zh hne;have RS:=zh rs;have RDG:=zh rdg;have AM:=zh am;have FLT:=zh flt
   clear ib ba dg hne rs r1 rdg cs ak am wz flt hv hG hT hC9 hxw hF hM hC hCC hb hb' e1 hr hn hp lk hbk hrw hD hE h3 hq h0
   go_enter Tryz.func94,Tryz.ntmps94
   go_wp2_with fail
   obtain ⟨b1,hb1⟩:∃ b1,b1=w.heap.size:=⟨_,rfl⟩
   refine (IB.out _ BA.out).mono ?_
   rintro e w2 ⟨rfl,hb2⟩
   have AM2:=zh (AM.out.below hb2 AM.out.lt);have B2:=zh (BA.out.trans (hb2.mono BA.out.size))
   clear hb2 BA IB AM
   rw [←hb1] at AM2
   go_wp2_with fail
   rw [←hb1]
   have M2:Hid (At w2.drew (b1+1) M 38):=AM2
   refine wp_region_plan_in (fun y=>At y (b1+1) M 38) (.take 0 (.take 1 (.take 3 (.take 4 (.sole 2 (.take 5 .done)))))) (by kernel_rfl) (by kernel_rfl) (by kernel_rfl) M2.out ?_
   iterate 2 ((first | refine Mem.pm1 ?_ | refine Mem.pm2 ?_ | refine Mem.pt ?_ | refine Mem.pf ?_);(simp only [Mem.zp,Mem.pb,Mem.pc]))
   refine plan_field 38 _ 2 (b1+1) 0 ⟨b1+1,2,none⟩ (by rfl) (by rfl) (by rfl) ze (fun wx=>by go_simp) ?_
   (simp only [Mem.zp,Mem.pb,Mem.pc])
   refine plan_row_at 22 _ (b1+1) 2 32 _ M E 38 (by rfl) (by rfl) (by rfl) ze (fun w' hw'=>hw') Tryz.underlying22 zr infoDg (by rw [RS.out];decide) RDG.out ?_
   (simp only [Mem.zp,Mem.pb,Mem.pc])
   refine plan_call 105 _ _ _ (by kernel_rfl) (by rfl) (by rfl) (by rfl) (by first | exact Mem.ev_none _ | (simp only [List.map_toArray,List.map_cons,List.map_nil,Mem.ev_tmp,List.getD_cons_succ,List.getD_cons_zero] <;> rfl)) ?_
   refine (DG.out w2.drew B2.out.drew).mono ?_
   rintro o3 w3 ⟨rfl,hk3⟩
   have nF:∀ k,b1≤k→¬ F k:=fun k hk hf=>by have:=FLT.out k hf;omega
   have AM3:=zh ((AM2.out.drew).chg hk3.2 (nF _ (Nat.le_succ _)));have K3:=zh hk3
   clear hk3 nF
   refine ⟨_,rfl,AM3.out,?_⟩
   (simp only [Mem.zp,Mem.pb,Mem.pc])
   refine plan_bin _ _ _ _ _ _ _ (.bool true) (by rfl) (by rfl) (by rfl) ze ze (fun wx=>NE.out _ _ wx) ?_
   (simp only [Mem.zp,Mem.pb,Mem.pc])
   refine plan_nil ?_
   clear AM2 M2
   go_wp2_with fail
   go_ret2
   obtain ⟨⟨F',h1,h2⟩,hc⟩:=K3.out
   have hz:=B2.out.size
   refine ⟨_,F',rfl,slB_nil _ _,h1,fun k hk=>?_,?_⟩
   ·rcases h2 k hk with g | g
    ·exact .inl g
    ·exact .inr (Nat.le_trans hz g)
   ·exact ((Chg.of_below B2.out).drew).trans (F1:=F) hc fun _ hx=>.inl hx
end Sha
end Go.Proofs.YtlhnegbjoncieaaGreatDoor
