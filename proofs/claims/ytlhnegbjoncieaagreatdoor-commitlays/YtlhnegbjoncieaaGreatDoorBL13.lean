/- My own texts, merged. -/
import Derived.Test.YtlhnegbjoncieaaGreatDoorBL07
import Derived.Test.YtlhnegbjoncieaaGreatDoorBL08
import Derived.Test.YtlhnegbjoncieaaGreatDoorBL05
import Derived.OwnWalk
import Derived.Deep.DeepCutAuto
import Derived.Test.YtlhnegbjoncieaaGreatDoorBL09
namespace Go.Proofs.YtlhnegbjoncieaaGreatDoor
namespace Sha
open Go.RowKit Mem
def plOk (r:RefV):Bool:=decide (0≤r.pl∧r.pl≤1)
def bodyN (L:List RefV) (n:Nat):Lb8:=BitVec.ofNat 8 L.length::(L.take n).flatMap layRf
theorem bodyN_succ (L:List RefV) (n:Nat) (h:n < L.length):bodyN L (n+1)=bodyN L n++layRf (L.getD n zref):=by
 unfold bodyN
 rw [List.take_add_one,List.getElem?_eq_getElem h,List.flatMap_append]
 simp [List.getD_eq_getElem?_getD,List.getElem?_eq_getElem h]
theorem flat_length (L:List RefV) (h:∀ r∈L,r.Wf):(L.flatMap layRf).length=37*L.length:=by
 induction L with
 | nil=>rfl
 | cons r L ih=>
  rw [List.flatMap_cons,List.length_append,layRf_length (h r (List.mem_cons_self ..)),ih (fun x hx=>h x (List.mem_cons_of_mem _ hx)),List.length_cons]
  omega
theorem bodyN_length (L:List RefV) (n:Nat) (h:∀ r∈L,r.Wf) (hn:n≤L.length):(bodyN L n).length=1+37*n:=by
 unfold bodyN
 rw [List.length_cons,flat_length _ (fun r hr=>h r (List.mem_of_mem_take hr)),List.length_take]
 omega
def layN (L:List RefV):Lb8 × Int:=
 if L.length < 1∨6 < L.length∨L.all plOk=false then ([],1) else (bodyN L L.length++List.replicate (256 - (1+37*L.length)) 0,0)
theorem layN_ok {L:List RefV} {p:Lb8} (h:layN L=(p,0)):(1≤L.length∧L.length≤6)∧L.all plOk=true∧p=bodyN L L.length++List.replicate (256 - (1+37*L.length)) 0:=by
 unfold layN at h
 split at h
 ·injection h with _ h;cases h
 ·rename_i hc
  injection h with h _
  refine ⟨by omega,?_,h.symm⟩
  cases e:L.all plOk
  ·exact absurd (Or.inr (Or.inr e)) hc
  ·rfl
theorem layN_length {L:List RefV} {p:Lb8} (hw:∀ r∈L,r.Wf) (h:layN L=(p,0)):p.length=256:=by
 obtain ⟨h1,_,rfl⟩:=layN_ok h
 rw [List.length_append,bodyN_length L _ hw (Nat.le_refl _),List.length_replicate]
 omega
def pieceN (p:Lb8) (i:Nat):Lb8:=(p.drop (1+37*i)).take 37
def manyN (p:Lb8):Nat:=min (p.getD 0 0).toNat 6
def refsN (p:Lb8) (n:Nat):List RefV:=(List.range n).map fun i=>rfOf (pieceN p i)
theorem refsN_length (p:Lb8) (n:Nat):(refsN p n).length=n:=by simp [refsN]
theorem refsN_succ (p:Lb8) (n:Nat):refsN p (n+1)=refsN p n++[rfOf (pieceN p n)]:=by simp [refsN,List.range_succ]
theorem refsN_get (p:Lb8) (n i:Nat) (h:i < n):(refsN p n).getD i zref=rfOf (pieceN p i):=by simp [refsN,List.getD_eq_getElem?_getD,h]
theorem piece_length (p:Lb8) (i:Nat) (h:p.length=256) (hi:i < 6):(pieceN p i).length=37:=by
 unfold pieceN
 rw [List.length_take,List.length_drop]
 omega
theorem refsN_wf (p:Lb8) (n:Nat) (h:p.length=256) (hn:n≤6):∀ r∈refsN p n,r.Wf:=by
 intro r hr
 unfold refsN at hr
 obtain ⟨i,hi,rfl⟩:=List.mem_map.1 hr
 exact rfOf_wf _ (piece_length p i h (by have:=List.mem_range.1 hi;omega))
def allN (p:Lb8):List RefV × Int:=
 if p.length≠256 then ([],1) else if layN (refsN p (manyN p))=(p,0) then (refsN p (manyN p),0) else ([],9)
def parseN (p:Lb8) (z:Int):List RefV × Int:=
 if z < 1∨6 < z then ([],1) else if (allN p).2=0∧((allN p).1.length:Int)≠z then ([],9) else allN p
theorem bad_piece (p:Lb8) (i n:Nat) (hi:i < n) (h:1 < ((pieceN p i).getD 0 0).toNat):layN (refsN p n)=([],1):=by
 unfold layN
 refine if_pos (Or.inr (Or.inr ?_))
 rw [List.all_eq_false]
 refine ⟨rfOf (pieceN p i),List.mem_map.2 ⟨i,List.mem_range.2 hi,rfl⟩,?_⟩
 have e:(rfOf (pieceN p i)).pl=(((pieceN p i).getD 0 0).toNat:Int):=rfl
 unfold plOk
 rw [e]
 intro hc
 have h2:=of_decide_eq_true hc
 omega
theorem allN_lay {p:Lb8} {L:List RefV} (h:allN p=(L,0)):layN L=(p,0):=by
 unfold allN at h
 split at h
 ·injection h with _ h;cases h
 ·split at h
  ·rename_i h2
   injection h with h _
   rw [←h];exact h2
  ·injection h with _ h;cases h
theorem ref_back (r:RefV) (hr:r.Wf) (h:plOk r=true):rfOf (layRf r)=r:=by
 have h2:0≤r.pl∧r.pl≤1:=by simpa [plOk] using h
 obtain ⟨p,e,d⟩:=r
 have hd:d.length=32:=hr.dg
 have hp:p=0∨p=1:=by simp only at h2;omega
 unfold rfOf layRf
 rw [RefV.mk.injEq]
 refine ⟨?_,?_,?_⟩
 ·rcases hp with rfl | rfl <;> rfl
 ·show lew (([BitVec.ofInt 8 p]++le4 e++d).drop 1) 0=e
  exact lew_le4 e d
 ·show ([BitVec.ofInt 8 p]++le4 e++d).drop 5=d
  rfl
theorem flat_piece:∀ (L:List RefV) (t:Lb8),(∀ r∈L,r.Wf)→∀ i,i < L.length→((L.flatMap layRf++t).drop (37*i)).take 37=layRf (L.getD i zref):=by
 intro L
 induction L with
 | nil=>intro t _ i hi;simp at hi
 | cons r L ih=>
  intro t h i hi
  have hl:=layRf_length (h r (List.mem_cons_self ..))
  rw [List.flatMap_cons,List.append_assoc]
  match i with
  | 0=>
   show (layRf r++_).take 37=layRf r
   rw [List.take_append_of_le_length (by omega),List.take_of_length_le (by omega)]
  | i+1=>
   have e:37*(i+1)=(layRf r).length+37*i:=by omega
   rw [e,List.drop_append,List.drop_of_length_le (by omega),List.nil_append,Nat.add_sub_cancel_left]
   exact ih t (fun x hx=>h x (List.mem_cons_of_mem _ hx)) i (by simpa using hi)
theorem lay_piece {L:List RefV} {p:Lb8} (hw:∀ r∈L,r.Wf) (h:layN L=(p,0)) (i:Nat) (hi:i < L.length):pieceN p i=layRf (L.getD i zref):=by
 obtain ⟨_,_,rfl⟩:=layN_ok h
 unfold pieceN bodyN
 rw [List.take_of_length_le (Nat.le_refl _),List.cons_append,Nat.add_comm 1 (37*i),List.drop_succ_cons]
 exact flat_piece L _ hw i hi
theorem lay_many {L:List RefV} {p:Lb8} (h:layN L=(p,0)):manyN p=L.length∧(p.getD 0 0).toNat=L.length:=by
 obtain ⟨h1,_,rfl⟩:=layN_ok h
 have e:((bodyN L L.length++List.replicate (256 - (1+37*L.length)) 0).getD 0 0).toNat=L.length:=by
  show (BitVec.ofNat 8 L.length).toNat=L.length
  rw [BitVec.toNat_ofNat]
  omega
 unfold manyN
 rw [e]
 omega
theorem lay_refs {L:List RefV} {p:Lb8} (hw:∀ r∈L,r.Wf) (h:layN L=(p,0)):refsN p L.length=L:=by
 have ho:=(layN_ok h).2.1
 apply List.ext_getElem
 ·rw [refsN_length]
 ·intro i h1 h2
  have a:=refsN_get p L.length i h2
  rw [lay_piece hw h i h2] at a
  have e:L.getD i zref=L[i]:=by simp [List.getD_eq_getElem?_getD,h2]
  rw [e,ref_back L[i] (hw _ (List.getElem_mem h2)) (List.all_eq_true.1 ho _ (List.getElem_mem h2))] at a
  rw [←a]
  simp [List.getD_eq_getElem?_getD,h1]
theorem layN_all {L:List RefV} {p:Lb8} (hw:∀ r∈L,r.Wf) (h:layN L=(p,0)):allN p=(L,0):=by
 unfold allN
 rw [if_neg (fun hn=>hn (layN_length hw h)),(lay_many h).1,lay_refs hw h,if_pos h]
theorem lay_parse {L:List RefV} {p:Lb8} (hw:∀ r∈L,r.Wf) (h:layN L=(p,0)):parseN p (L.length:Int)=(L,0):=by
 have h1:=(layN_ok h).1
 unfold parseN
 rw [layN_all hw h,if_neg (by omega),if_neg (by simp)]
theorem allN_wf (p:Lb8):∀ r∈(allN p).1,r.Wf:=by
 unfold allN
 split
 ·intro r hr;cases hr
 ·rename_i h
  split
  ·exact refsN_wf p _ (by omega) (by unfold manyN;omega)
  ·intro r hr;cases hr
theorem allN_le (p:Lb8):(allN p).1.length≤6:=by
 unfold allN
 split
 ·simp
 ·split
  ·rw [refsN_length];unfold manyN;omega
  ·simp
end Sha
end Go.Proofs.YtlhnegbjoncieaaGreatDoor
namespace Go.Proofs.YtlhnegbjoncieaaGreatDoor
namespace Sha
open Go.RowKit Mem
set_option maxRecDepth 100000
def TEnd (t:Int × Int × Bool) (w:World) (e:Ending) (w':World):Prop:=e=.returned (.tuple #[.int .i64 t.1,.int .i64 t.2.1,.bool t.2.2])∧Below w.heap.size w w'
theorem KZ_nat (p q:Nat) (h:q < itn p):KZ p (q:Int)=if p≤q then kz p q (many p q) else []:=by
 unfold KZ
 by_cases hp:p≤q
 ·rw [if_pos hp,if_pos ⟨by omega,by omega⟩,Int.toNat_natCast]
 ·rw [if_neg hp,if_neg (by omega)]
def zP (p n:Nat):List Int:=(List.range n).map fun i=>(lev p i:Int)
structure NS (u w:World) (g p:Nat) (vL vF:Value) (n m:Nat):Prop where
 z:At w u.heap.size (rsC 0 (.slice none 0 0) (.slice none 0 0)) 63
 s:At w g (rsC p vL vF) 63
 l:OwnV w (g+1) 3 vL (iz (zP p n))
 f:OwnV w (g+1) 3 vF (iz (fstL p m))
 ne:∀ b,vL.ownBlock=some b→vF.ownBlock≠some b
 b:Below u.heap.size u w
 h:g=u.heap.size+1
theorem NS.c1 {u w:World} {g p n m:Nat} {vL vF:Value} (h:NS u w g p vL vF n m):w.cell? ⟨g,1,none⟩=some vL:=(h.s.cell 1).trans rfl
theorem NS.c2 {u w:World} {g p n m:Nat} {vL vF:Value} (h:NS u w g p vL vF n m):w.cell? ⟨g,2,none⟩=some vF:=(h.s.cell 2).trans rfl
theorem NS.out {u w:World} {g p n m:Nat} {vL vF:Value} (h:NS u w g p vL vF n m) (hn:n=itn p) (hm:m=itn p) {w':World} (_hl:w'.heap.size=w.heap.size) (hk:∀ k,k≠u.heap.size→w'.heap[k]?=w.heap[k]?):RS w' p vL vF:=by
 subst hn hm
 refine ⟨(ownV_sli (OwnV.keep h.l (fun b hb=>hk b ?_))),(ownV_sli (OwnV.keep h.f (fun b hb=>hk b ?_)))⟩
 ·have:=(OwnV.lt h.l b hb).1;have:=h.h;omega
 ·have:=(OwnV.lt h.f b hb).1;have:=h.h;omega
theorem stn_le (p k:Nat) (hk:k≤3) (h1:p≤216):stn p k≤300∧lvn p k≤216:=by
 match k,hk with
 | 0,_=>simp [stn,lvn];omega
 | 1,_=>simp [stn,lvn,cnt];omega
 | 2,_=>simp [stn,lvn,cnt];omega
 | 3,_=>simp [stn,lvn,cnt];omega
theorem RS.one {w:World} {p:Nat} {vL vF:Value} (h:RS w p vL vF):(rsC p vL vF).all (·.oneCell')=true:=by
 obtain ⟨a,c,rfl⟩:=h.l.hd
 obtain ⟨b,d,rfl⟩:=h.f.hd
 exact rsC_one _ _ _ _ _ _ _
end Sha
end Go.Proofs.YtlhnegbjoncieaaGreatDoor
namespace Go.Proofs.YtlhnegbjoncieaaGreatDoor
namespace Sha
open Go.RowKit
def atB (i j:Nat):Nat:=i*6 ^ j
def enN (p a i j:Nat):Nat:=min ((i+1)*6 ^ j) (lvn p (a - j))
theorem atB_succ (i j:Nat):atB i (j+1)=atB i j*6:=by unfold atB;rw [Nat.pow_succ,Nat.mul_assoc]
theorem enN_succ (p a i j:Nat) (ha:a≤3) (hj:j+1≤a):enN p a i (j+1)=min (enN p a i j*6) (lvn p (a - (j+1))):=by
 have c:=lvn_cnt p (a - (j+1)) (by omega)
 rw [show a - (j+1)+1=a - j by omega] at c
 have l:=cnt_le (lvn p (a - (j+1)))
 have e:(i+1)*6 ^ (j+1)=(i+1)*6 ^ j*6:=by rw [Nat.pow_succ,Nat.mul_assoc]
 unfold enN
 rw [e,c]
 omega
theorem en_le (p a i j:Nat) (ha:a≤3) (h1:p≤216):enN p a i j≤216:=by
 have:=(stn_le p (a - j) (by omega) h1).2
 unfold enN
 omega
theorem at_lt (p a i:Nat) (ha:a≤3) (hi:i < lvn p a):∀ j,j≤a→atB i j < enN p a i j:=by
 intro j
 induction j with
 | zero=>intro _;unfold atB enN;rw [Nat.pow_zero,Nat.mul_one,Nat.mul_one,Nat.sub_zero];omega
 | succ j ih=>
  intro hj
  have h:=ih (by omega)
  have c:=lvn_cnt p (a - (j+1)) (by omega)
  rw [show a - (j+1)+1=a - j by omega] at c
  have l:=cnt_le (lvn p (a - (j+1)))
  have h2:enN p a i j≤lvn p (a - j):=Nat.min_le_right _ _
  rw [atB_succ,enN_succ p a i j ha hj]
  omega
def bel (s m:Nat) (n:Nat):List Int:=(List.range n).map fun x=>((s+(m+x):Nat):Int)
theorem bel_length (s m n:Nat):(bel s m n).length=n:=by simp [bel]
theorem bel_succ (s m n:Nat):bel s m (n+1)=bel s m n++[((s+(m+n):Nat):Int)]:=by simp [bel,List.range_succ]
def belL (p a i b:Nat):List Int:=bel (stn p b) (atB i (a - b)) (enN p a i (a - b) - atB i (a - b))
theorem bel_kids (p q a:Nat) (_h0:1≤p) (_h1:p≤216) (hp:p≤q) (hq:q < itn p) (ha:lev p q=a+1):belL p (a+1) (q - stn p (a+1)) a=KZ p (q:Int):=by
 rw [KZ_nat p q hq,if_pos hp]
 have h4:=itn_le p
 have hlo:=lev_lo p q
 have hhi:=lev_hi p q (by omega)
 have hl3:=lev_le p q
 rw [ha] at hlo hhi hl3
 have s1:=stn_lvn p a (by omega)
 have e1:fst p q=stn p a+6*(q - stn p (a+1)):=by unfold fst;rw [ha,Nat.add_sub_cancel]
 have e2:many p q=min 6 (stn p (a+1) - fst p q):=by unfold many;rw [ha]
 have hn:enN p (a+1) (q - stn p (a+1)) (a+1 - a) - atB (q - stn p (a+1)) (a+1 - a)=many p q:=by
  rw [show a+1 - a=1 by omega]
  unfold enN atB
  rw [Nat.pow_one,show a+1 - 1=a by omega,e2,e1]
  omega
 unfold belL
 rw [hn]
 unfold bel kz
 refine List.map_congr_left (fun x _=>?_)
 rw [show a+1 - a=1 by omega,e1]
 unfold atB
 rw [Nat.pow_one]
 omega
theorem lev_node' (p q:Nat) (h:p≤q):1≤lev p q:=by
 unfold lev
 rw [if_neg (by omega)]
 split
 ·omega
 ·split <;> omega
end Sha
end Go.Proofs.YtlhnegbjoncieaaGreatDoor
namespace Go.Proofs.YtlhnegbjoncieaaGreatDoor
namespace Sha
open Go.RowKit Mem
set_option maxRecDepth 100000
def OIEnd (w:World) (L:List Int) (e:Ending) (w':World):Prop:=∃ v,e=.returned v∧OwnV w' w.heap.size 3 v (iz L)∧Below w.heap.size w w'
end Sha
end Go.Proofs.YtlhnegbjoncieaaGreatDoor
namespace Go.Proofs.YtlhnegbjoncieaaGreatDoor
namespace Sha
open Go.RowKit Mem
theorem lay_rfOf (b:Lb8) (hl:b.length=37):layRf (rfOf b)=b:=by
 match b,hl with
 | b0::b1::b2::b3::b4::t,_=>
  have e0:BitVec.ofInt 8 ((b0.toNat:Nat):Int)=b0:=by
   apply BitVec.eq_of_toNat_eq
   have:=b0.isLt
   rw [BitVec.toNat_ofInt]
   omega
  have e1:=le4_lew b1 b2 b3 b4 t
  show [BitVec.ofInt 8 ((b0.toNat:Nat):Int)]++le4 (lew (b1::b2::b3::b4::t) 0)++t=_
  rw [e0,e1];rfl
theorem pieces_flat (p:Lb8) (hp:p.length=256):∀ m,m≤6→(refsN p m).flatMap layRf=(p.drop 1).take (37*m):=by
 intro m
 induction m with
 | zero=>intro _;rfl
 | succ m ih=>
  intro hm
  rw [refsN_succ,List.flatMap_append,ih (by omega)]
  have e:[rfOf (pieceN p m)].flatMap layRf=pieceN p m:=by
   rw [List.flatMap_cons,List.flatMap_nil,List.append_nil]
   exact lay_rfOf _ (piece_length p m hp (by omega))
  rw [e]
  unfold pieceN
  rw [show 37*(m+1)=37*m+37 by omega,List.take_add,List.drop_drop]
theorem body_page (p:Lb8) (hp:p.length=256) (m:Nat) (hm:m≤6) (h0:(p.getD 0 0).toNat=m):bodyN (refsN p m) m=p.take (1+37*m):=by
 have hl:=refsN_length p m
 unfold bodyN
 rw [hl,List.take_of_length_le (by rw [hl];exact Nat.le_refl _),pieces_flat p hp m hm]
 match p,hp with
 | x::t,_=>
  have hx:x.toNat=m:=h0
  have e:BitVec.ofNat 8 m=x:=by
   apply BitVec.eq_of_toNat_eq
   have:=x.isLt
   rw [BitVec.toNat_ofNat,hx]
   omega
  rw [e,Nat.add_comm 1,List.take_succ_cons];rfl
def zerosFrom (p:Lb8) (k:Nat):Prop:=∀ j,k≤j→j < p.length→p.getD j 0=0
theorem drop_zeros (p:Lb8) (k:Nat) (h:zerosFrom p k):p.drop k=List.replicate (p.length - k) 0:=by
 apply List.ext_getElem
 ·simp
 ·intro i h1 h2
  rw [List.getElem_drop,List.getElem_replicate]
  have hi:k+i < p.length:=by simp at h1;omega
  have:=h (k+i) (by omega) hi
  simpa [List.getD_eq_getElem?_getD,hi] using this
theorem places_ok (p:Lb8) (m:Nat) (h:∀ i,i < m→((pieceN p i).getD 0 0).toNat≤1):(refsN p m).all plOk=true:=by
 rw [List.all_eq_true]
 intro r hr
 obtain ⟨i,hi,rfl⟩:=List.mem_map.1 hr
 have h1:=h i (List.mem_range.1 hi)
 exact decide_eq_true (show 0≤(((pieceN p i).getD 0 0).toNat:Int)∧(((pieceN p i).getD 0 0).toNat:Int)≤1 by omega)
theorem allN_good (p:Lb8) (hp:p.length=256) (m:Nat) (h0:(p.getD 0 0).toNat=m) (h1:1≤m) (h6:m≤6) (hpl:∀ i,i < m→((pieceN p i).getD 0 0).toNat≤1) (hz:zerosFrom p (1+37*m)):allN p=(refsN p m,0):=by
 have hm:manyN p=m:=by unfold manyN;omega
 have hl:=refsN_length p m
 have hlay:layN (refsN p m)=(p,0):=by
  unfold layN
  rw [if_neg (by rw [hl,places_ok p m hpl];rintro (a | a | a);omega;omega;cases a),hl,body_page p hp m h6 h0]
  have e:=drop_zeros p (1+37*m) hz
  rw [hp] at e
  rw [←e,List.take_append_drop]
 unfold allN
 rw [if_neg (fun x=>x hp),hm,if_pos hlay]
theorem allN_few (p:Lb8) (hp:p.length=256) (h:(p.getD 0 0).toNat < 1∨6 < (p.getD 0 0).toNat):allN p=([],9):=by
 unfold allN
 rw [if_neg (fun x=>x hp)]
 refine if_neg (fun hl=>?_)
 have hm:=(lay_many hl).2
 have hr:=refsN_length p (manyN p)
 rw [hr] at hm
 unfold manyN at hm
 have h1:=(layN_ok hl).1
 rw [hr] at h1
 unfold manyN at h1
 omega
theorem allN_tail (p:Lb8) (hp:p.length=256) (m j:Nat) (h0:(p.getD 0 0).toNat=m) (h6:m≤6) (hj:1+37*m≤j) (_hj2:j < 256) (hne:p.getD j 0≠0):allN p=([],9):=by
 have hm:manyN p=m:=by unfold manyN;omega
 unfold allN
 rw [if_neg (fun x=>x hp),hm]
 refine if_neg (fun hl=>hne ?_)
 have hok:=(layN_ok hl).2.2
 have hr:=refsN_length p m
 rw [hr,body_page p hp m h6 h0] at hok
 rw [hok,List.getD_eq_getElem?_getD,List.getElem?_append_right (by rw [List.length_take];omega),List.getElem?_replicate]
 split <;> rfl
theorem allN_place (p:Lb8) (hp:p.length=256) (m i:Nat) (h0:(p.getD 0 0).toNat=m) (h6:m≤6) (hi:i < m) (h:1 < ((pieceN p i).getD 0 0).toNat):allN p=([],9):=by
 have hm:manyN p=m:=by unfold manyN;omega
 unfold allN
 rw [if_neg (fun x=>x hp),hm,bad_piece p i m hi h,if_neg (by intro e;injection e with _ e;cases e)]
end Sha
end Go.Proofs.YtlhnegbjoncieaaGreatDoor
