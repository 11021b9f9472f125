/- The document's Plan of what may be planned: its boxes, up to its first item. The document's Plan: the account of what it holds between items, with the list of the nodes that are needed; what is known of what is under way. -/
import Derived.Test.YtplmfmpbkjnbaaaGreatDoorBQ38
import Derived.Test.YtplmfmpbkjnbaaaGreatDoorBQ13
namespace Go.Proofs.YtplmfmpbkjnbaaaGreatDoor
namespace Sha
open Go.RowKit Mem
set_option maxRecDepth 100000
theorem buildToldR (root:RefV) (hr:root.Wf) (wx:World):(Instr.build 54 #[(2,.agg (refC root))]).run Tryz.prog wx=.ok (.agg (toldC (.slice none 0 0) (.slice none 0 0) root 0)) wx:=by
 obtain ⟨pl,re,dg⟩:=root
 have hd:dg.length=32:=hr.dg
 match dg,hd with
 | [a0,a1,a2,a3,a4,a5,a6,a7,a8,a9,a10,a11,a12,a13,a14,a15,a16,a17,a18,a19,a20,a21,a22,a23,a24,a25,a26,a27,a28,a29,a30,a31],_=>show (Instr.build _ _).run _ _=_;kernel_rfl
theorem made_bools (n:Nat):(madeCells (Value.bool false).cells (n*1)).toList=(List.replicate n false).map Value.bool:=by
 rw [madeCells,Nat.mul_one]
 apply List.ext_getElem
 ·simp
 ·intro i h1 h2
  simp [Value.cells,Nat.mod_one]
end Sha
end Go.Proofs.YtplmfmpbkjnbaaaGreatDoor
namespace Go.Proofs.YtplmfmpbkjnbaaaGreatDoor
namespace Sha
open Go.RowKit Mem
set_option maxRecDepth 100000
theorem refs_splice {F:List RefV} {r:RefV} {i:Nat} (hF:∀ x∈F,x.Wf) (hr:r.Wf) (hi:i < F.length):Mem.splice (refCs F).toArray (i*34) (refC r).toList=(refCs (F.set i r)).toArray:=by
 rw [refCs_set F i r hF hi]
 have e:(refC r).toList=refL r:=rfl
 rw [e]
 unfold Mem.splice
 rw [refL_length hr]
theorem told_root {vp vn:Value} {R r:RefV} (hR:R.Wf) (hr:r.Wf):Mem.splice (toldC vp vn R 0) 2 (refC r).toList=toldC vp vn r 0:=by
 have e:(refC r).toList=refL r:=rfl
 have h1:=refL_length hR
 have h2:=refL_length hr
 rw [e]
 unfold Mem.splice toldC
 rw [h2]
 show ((vp::vn::(refL R++[.int .i64 0])).take 2++refL r++(vp::vn::(refL R++[.int .i64 0])).drop (2+34)).toArray=_
 have d:(vp::vn::(refL R++[.int .i64 0]):List Value).drop (2+34)=[.int .i64 0]:=by
  rw [show 2+34=34+1+1 from rfl,List.drop_succ_cons,List.drop_succ_cons,List.drop_append_of_le_length (by omega),List.drop_of_length_le (by omega),List.nil_append]
 rw [d]
 rfl
theorem told_set0 (vp vp' vn:Value) (R:RefV) (e:Int):(toldC vp vn R e).setIfInBounds 0 vp'=toldC vp' vn R e:=by
 unfold toldC
 rw [List.setIfInBounds_toArray,List.set_cons_zero]
theorem told_set1 (vp vn vn':Value) (R:RefV) (e:Int):(toldC vp vn R e).setIfInBounds 1 vn'=toldC vp vn' R e:=by
 unfold toldC
 rw [List.setIfInBounds_toArray,List.set_cons_succ,List.set_cons_zero]
theorem blC_set (T:List Bool) (i:Nat) (b:Bool):(blC T).setIfInBounds i (.bool b)=blC (T.set i b):=by
 unfold blC
 rw [List.setIfInBounds_toArray,List.map_set]
theorem blC_size (T:List Bool):(blC T).size=T.length:=by simp [blC]
theorem blC_get (T:List Bool) (i:Nat) (h:i < T.length):(blC T)[i]?=some (.bool (T.getD i false)):=by
 simp [blC,List.getD_eq_getElem?_getD,h]
theorem made_at {w:World} {B g n z:Nat} {t:TypeId} {xs:List Value} (h:w.ownsRow B t z (.slice (some ⟨g,0,none⟩) n n) n xs) (h0:0 < n):At w g xs.toArray t:=by
 rcases h.2 with ⟨_,e⟩ | ⟨g',cap,cur,e,hg,hh,hn,hm,hs,ht⟩
 ·omega
 ·injection e with e1 e2 e3
  injection e1 with e1
  injection e1 with e1 _ _
  subst e1
  subst e3
  have hc:cur=xs.toArray:=by
   rw [←ht,List.take_of_length_le (by rw [Array.length_toList,hs];exact Nat.le_refl _)]
  rw [←hc];exact hh
end Sha
namespace Mem
theorem At.eqw {w w':World} {b:Nat} {C:Array Value} {t:TypeId} (h:At w b C t) (e:w'.heap[b]?=w.heap[b]?):At w' b C t:=by
 unfold At at *
 rw [e,h]
end Mem
namespace Sha
open Go.RowKit Mem
structure RpJ (w0 w:World) (bo bf bt:Nat) (vp vn:Value) (Dp:Foot) (wp:List (Int × Value)) (PU:List (Int × Lb8)) (Dn:Foot) (wn:List (Int × Value)) (NO:List NdV) (F:List RefV) (T:List Bool) (R:RefV) (vk:Value) (KI:List Int):Prop where
 i:RpI w0 w bo bf bt vp vn Dp wp PU Dn wn NO F T R
 k:OwnV w w0.heap.size 3 vk (iz KI)
 lo:∀ k,Dp k→w0.heap.size≤k
 lo2:∀ k,Dn k→w0.heap.size≤k
section
variable {w0 w w2 w3 w5 w6:World} {bo bf bt:Nat} {vp vn vp' vn' vk u:Value} {Dp Dn G:Foot} {wp wn:List (Int × Value)} {PU:List (Int × Lb8)} {NO:List NdV} {F F':List RefV} {T T':List Bool} {R R':RefV} {x:Lb8} {z:Int} {L:List RefV} {KI:List Int}
theorem RpJ.chg (h:RpJ w0 w bo bf bt vp vn Dp wp PU Dn wn NO F T R vk KI) (hs:w.heap.size≤w2.heap.size) (hb:Below w0.heap.size w0 w2) (ho:At w2 bo (toldC vp vn R' 0) 54) (hf:At w2 bf (refCs F').toArray 25) (ht:At w2 bt (blC T') 4)
 (hk:∀ k,k < w.heap.size→k≠bo→k≠bf→k≠bt→w2.heap[k]?=w.heap[k]?):RpJ w0 w2 bo bf bt vp vn Dp wp PU Dn wn NO F' T' R' vk KI:=
 ⟨h.i.chg hs hb ho hf ht hk,ownsRow_keep h.k fun g hg=>hk g (World.ownsRow.lt h.k g hg).2 (fun e=>own_ne_at h.k h.i.o (by decide) (by rw [←e];exact hg)) (fun e=>own_ne_at h.k h.i.f (by decide) (by rw [←e];exact hg)) (fun e=>own_ne_at h.k h.i.t (by decide) (by rw [←e];exact hg)),h.lo,h.lo2⟩
theorem RpJ.below (h:RpJ w0 w bo bf bt vp vn Dp wp PU Dn wn NO F T R vk KI) (hb:Below w.heap.size w w2):RpJ w0 w2 bo bf bt vp vn Dp wp PU Dn wn NO F T R vk KI:=
 ⟨h.i.below hb,ownsRow_below h.k hb,h.lo,h.lo2⟩
theorem RpJ.else (h:RpJ w0 w bo bf bt vp vn Dp wp PU Dn wn NO F T R vk KI) {g sz:Nat} (hg:sz≤g) (hz:w0.heap.size≤sz) (hlo:bo < sz∧bf < sz∧bt < sz) (hd:(∀ k,Dp k→k < sz)∧(∀ k,Dn k→k < sz)∧(∀ k,vp.ownBlock=some k→k < sz)∧(∀ k,vn.ownBlock=some k→k < sz)∧∀ k,vk.ownBlock=some k→k < sz) (hs:w.heap.size≤w2.heap.size) (hb:∀ B a,Below B a w→B≤g→Below B a w2)
 (hk:∀ k,k≠g→w2.heap[k]?=w.heap[k]?):RpJ w0 w2 bo bf bt vp vn Dp wp PU Dn wn NO F T R vk KI:=by
 obtain ⟨d1,d2,d3,d4,d5⟩:=hd
 obtain ⟨l1,l2,l3⟩:=hlo
 refine ⟨⟨hb _ _ h.i.b (by omega),h.i.o.eqw (hk _ (by omega)),h.i.f.eqw (hk _ (by omega)),h.i.t.eqw (hk _ (by omega)),h.i.p.keepW elseB hs fun k hl e=>hk k ?_,h.i.q.keepW elseR hs fun k hl e=>hk k ?_,h.i.dp,h.i.dn,h.i.ns⟩,ownsRow_keep h.k fun k hkk=>hk k (by have:=d5 k hkk;omega),h.lo,h.lo2⟩
 ·rcases e with e | e
  ·have:=d1 k e;omega
  ·have:=d3 k e;omega
 ·rcases e with e | e
  ·have:=d2 k e;omega
  ·have:=d4 k e;omega
theorem RpJ.lts (h:RpJ w0 w bo bf bt vp vn Dp wp PU Dn wn NO F T R vk KI):(bo < w.heap.size∧bf < w.heap.size∧bt < w.heap.size)∧(∀ k,Dp k→k < w.heap.size)∧(∀ k,Dn k→k < w.heap.size)∧(∀ k,vp.ownBlock=some k→k < w.heap.size)∧(∀ k,vn.ownBlock=some k→k < w.heap.size)∧∀ k,vk.ownBlock=some k→k < w.heap.size:=
 ⟨⟨h.i.o.lt,h.i.f.lt,h.i.t.lt⟩,fun k hk=>(h.i.p.d k hk).1,fun k hk=>(h.i.q.d k hk).1,fun k hk=>(World.ownsRow.lt h.i.p.o k hk).2,fun k hk=>(World.ownsRow.lt h.i.q.o k hk).2,fun k hk=>(World.ownsRow.lt h.k k hk).2⟩
theorem RpJ.fresh (h:RpJ w0 w bo bf bt vp vn Dp wp PU Dn wn NO F T R vk KI) (F':List RefV):RpJ w0 (w.setRow bf (refCs F').toArray) bo bf bt vp vn Dp wp PU Dn wn NO F' T R vk KI:=
 ⟨h.i.fresh F',ownsRow_keep h.k fun g hg=>setRow_other _ _ g _ fun e=>own_ne_at h.k h.i.f (by decide) (by rw [←e];exact hg),h.lo,h.lo2⟩
theorem RpJ.turned (h:RpJ w0 w bo bf bt vp vn Dp wp PU Dn wn NO F T R vk KI) (hA:At w2 bt (blC T') 4) (hk:∀ k,k≠bt→w2.heap[k]?=w.heap[k]?) (hB:∀ B a,Below B a w→B≤bt→Below B a w2):RpJ w0 w2 bo bf bt vp vn Dp wp PU Dn wn NO F T' R vk KI:=
 h.chg (hB 0 w (Below.refl _ _) (Nat.zero_le _)).size (hB _ _ h.i.b h.i.ns.2.2) (h.i.o.eqw (hk _ (at_apart h.i.o h.i.t (by decide)))) (h.i.f.eqw (hk _ (at_apart h.i.f h.i.t (by decide)))) hA fun k _ _ _ e=>hk k e
theorem RpJ.rooted (h:RpJ w0 w bo bf bt vp vn Dp wp PU Dn wn NO F T R vk KI) (R':RefV):RpJ w0 (w.setRow bo (toldC vp vn R' 0)) bo bf bt vp vn Dp wp PU Dn wn NO F T R' vk KI:=
 ⟨h.i.rooted R',ownsRow_keep h.k fun g hg=>setRow_other _ _ g _ fun e=>own_ne_at h.k h.i.o (by decide) (by rw [←e];exact hg),h.lo,h.lo2⟩
theorem RpJ.box (h:RpI w0 (w5.setRow bo (toldC vp' vn' R 0)) bo bf bt vp' vn' Dp wp PU Dn wn NO F T R) (hA:At w6 bo (toldC vp' vn' R 0) 54) (hk:∀ k,k≠bo→w6.heap[k]?=w5.heap[k]?) (hB:∀ B a,Below B a w5→B≤bo→Below B a w6) (hb:Below w0.heap.size w0 w5):RpI w0 w6 bo bf bt vp' vn' Dp wp PU Dn wn NO F T R:=by
 have o6:∀ k,k≠bo→w6.heap[k]?=(w5.setRow bo (toldC vp' vn' R 0)).heap[k]?:=fun k e=>(hk k e).trans (setRow_other _ _ k _ e).symm
 exact h.chg (by have:=(hB 0 w5 (Below.refl _ _) (Nat.zero_le _)).size;simpa using this) (hB _ _ hb h.ns.1) hA (h.f.eqw (o6 _ (at_apart h.f h.o (by decide)))) (h.t.eqw (o6 _ (at_apart h.t h.o (by decide)))) fun k _ e _ _=>o6 k e
theorem RpJ.put (h:RpJ w0 w bo bf bt vp vn Dp wp PU Dn wn NO F T R vk KI) (hs:SlB G w u x) (hG:∀ k,G k→k < w.heap.size∧(k≠bo∧k≠bf∧k≠bt)∧vp.ownBlock≠some k∧vn.ownBlock≠some k) (hlo:∀ k,G k→w0.heap.size≤k) (hb3:Below w.heap.size w w3) (ha:App w3 w5 vp vp') (hb5:Below w0.heap.size w3 w5)
 (ho:w5.ownsRow w0.heap.size 152 2 vp' (PU.length+1) (chVs wp++[.int .i64 z,u])) (hA:At w6 bo (toldC vp' vn R 0) 54) (hk:∀ k,k≠bo→w6.heap[k]?=w5.heap[k]?) (hB:∀ B a,Below B a w5→B≤bo→Below B a w6) :
 RpJ w0 w6 bo bf bt vp' vn (fun k=>Dp k∨G k) (wp++[(z,u)]) (PU++[(z,x)]) Dn wn NO F T R vk KI:=by
 have b5:Below w0.heap.size w0 w5:=(h.i.b.trans (hb3.mono h.i.b.size)).trans hb5
 refine ⟨RpJ.box (h.i.put hs hG hb3 ha hb5 ho) hA hk hB b5,?_,fun k hk=>hk.elim (h.lo k) (hlo k),h.lo2⟩
 have s3:=hb3.size
 refine ownsRow_keep h.k fun g hg=>?_
 have hl:=(World.ownsRow.lt h.k g hg).2
 rw [hk g fun e=>own_ne_at h.k h.i.o (by decide) (by rw [←e];exact hg),ha.k g (by omega) fun e=>ownsRow_ne h.k h.i.p.o (by decide) g hg e,hb3.block g hl]
theorem RpJ.node (h:RpJ w0 w bo bf bt vp vn Dp wp PU Dn wn NO F T R vk KI) (hs:TR G w u L) (hG:∀ k,G k→k < w.heap.size∧(k≠bo∧k≠bf∧k≠bt)∧vp.ownBlock≠some k∧vn.ownBlock≠some k) (hlo:∀ k,G k→w0.heap.size≤k) (hb3:Below w.heap.size w w3) (ha:App w3 w5 vn vn') (hb5:Below w0.heap.size w3 w5)
 (ho:w5.ownsRow w0.heap.size 124 2 vn' (NO.length+1) (chVs wn++[.int .i64 z,u])) (hA:At w6 bo (toldC vp vn' R 0) 54) (hk:∀ k,k≠bo→w6.heap[k]?=w5.heap[k]?) (hB:∀ B a,Below B a w5→B≤bo→Below B a w6) :
 RpJ w0 w6 bo bf bt vp vn' Dp wp PU (fun k=>Dn k∨G k) (wn++[(z,u)]) (NO++[(z,L)]) F T R vk KI:=by
 have b5:Below w0.heap.size w0 w5:=(h.i.b.trans (hb3.mono h.i.b.size)).trans hb5
 refine ⟨RpJ.box (h.i.node hs hG hb3 ha hb5 ho) hA hk hB b5,?_,h.lo,fun k hk=>hk.elim (h.lo2 k) (hlo k)⟩
 have s3:=hb3.size
 refine ownsRow_keep h.k fun g hg=>?_
 have hl:=(World.ownsRow.lt h.k g hg).2
 rw [hk g fun e=>own_ne_at h.k h.i.o (by decide) (by rw [←e];exact hg),ha.k g (by omega) fun e=>ownsRow_ne h.k h.i.q.o (by decide) g hg e,hb3.block g hl]
end
def putI (L:List (Nat × Lb8)):List (Int × Lb8):=L.map fun q=>((q.1:Int),q.2)
theorem each_putI {G:Foot} {w:World}:∀ (ws:List (Int × Value)) (L:List (Nat × Lb8)),Each2 (fun (q:Int × Value) (c:Int × Lb8)=>q.1=c.1∧SlB G w q.2 c.2) ws (putI L)→∃ vs:List (Nat × Value),Each2 (fun p q=>p.1=q.1∧SlB G w p.2 q.2) vs L∧putC vs=chVs ws
 | [],[],_=>⟨[],trivial,rfl⟩
 | [],_::_,h=>h.elim
 | _::_,[],h=>h.elim
 | q::ws,c::L,h=>by
  obtain ⟨⟨h1,h2⟩,h3⟩:=h
  obtain ⟨vs,e1,e2⟩:=each_putI ws L h3
  refine ⟨(c.1,q.2)::vs,⟨⟨rfl,h2⟩,e1⟩,?_⟩
  show .int .i64 ((c.1:Nat):Int)::q.2::putC vs=.int .i64 q.1::q.2::chVs ws
  rw [e2,h1]
theorem own_wput {w:World} {B B':Nat} {t:TypeId} {v:Value} {D:Foot} {ws:List (Int × Value)} {L:List (Nat × Lb8)} (h:OwnL TB w B t v D ws (putI L)) (hB:B'≤B) (hD:∀ k,D k→B'≤k):WPut (fun k=>B'≤k) w v L:=by
 obtain ⟨vs,e1,e2⟩:=each_putI ws L h.e
 refine ⟨vs,e1.mono fun _ _ a=>⟨a.1,SlR.mono a.2 fun k hk _=>hD k hk⟩,?_⟩
 rw [e2]
 have ho:=h.o
 have e:(putI L).length=L.length:=List.length_map ..
 rw [e] at ho
 refine SlR.mono (own_slR ho) fun k hk _=>?_
 have:=(World.ownsRow.lt ho k hk).1
 omega
structure FtI (key:Lb8) (ep:BitVec 32) (p:Nat) (root:RefV) (N:List NdV) (C:List ChV) (n:Nat) (F:List RefV) (T:List Bool):Prop where
 lf:F.length=itn p
 lt:T.length=itn p
 wf:∀ r∈F,r.Wf
 f:∀ j,j < itn p→F.getD j zref=(if j < n then frC key ep p root N C j else none).getD zref
 t:∀ j,j < itn p→T.getD j false=(decide (j < n) && tchC p C j)
section
variable {key:Lb8} {ep:BitVec 32} {p:Nat} {root:RefV} {N:List NdV} {C:List ChV} {F:List RefV} {T:List Bool}
theorem fti_zero:FtI key ep p root N C 0 (List.replicate (itn p) zref) (List.replicate (itn p) false):=
 ⟨List.length_replicate ..,List.length_replicate ..,fun r hr=>by rw [List.eq_of_mem_replicate hr];exact zref_wf,fun j hj=>by rw [if_neg (by omega)];simp [List.getD_eq_getElem?_getD,hj],fun j hj=>by simp [List.getD_eq_getElem?_getD,hj]⟩
theorem FtI.set {n:Nat} (h:FtI key ep p root N C n F T) (hn:n < itn p) (ht:tchC p C n=true) {s:Lb8 × RefV} (hs:selC key ep p root N C n=some s) (hr:s.2.Wf):FtI key ep p root N C (n+1) (F.set n s.2) (T.set n true):=by
 refine ⟨by rw [List.length_set,h.lf],by rw [List.length_set,h.lt],fun r hr2=>?_,fr_set hn F h.lf h.f hs,fun j hj=>?_⟩
 ·rcases List.mem_or_eq_of_mem_set hr2 with a | a
  ·exact h.wf r a
  ·rw [a];exact hr
 ·by_cases e:n=j
  ·subst e
   rw [List.getD_eq_getElem?_getD,List.getElem?_set_self (by rw [h.lt];exact hn),ht]
   simp
  ·rw [List.getD_eq_getElem?_getD,List.getElem?_set_ne e,←List.getD_eq_getElem?_getD,h.t j hj]
   congr 1
   exact decide_eq_decide.2 (by omega)
theorem FtI.keep {n:Nat} (h:FtI key ep p root N C n F T) (_hn:n < itn p) (ht:tchC p C n=false):FtI key ep p root N C (n+1) F T:=by
 refine ⟨h.lf,h.lt,h.wf,fr_keep F h.f (sel_none ht),fun j hj=>?_⟩
 rw [h.t j hj]
 by_cases e:j=n
 ·subst e;rw [ht];simp
 ·congr 1
  exact decide_eq_decide.2 (by omega)
theorem tail_ok (G:GoodC p root N C) {n:Nat} (hn:n < itn p) (ht:tchC p C n=true) {pg:Lb8} (hp:pageC p N C (frL key ep p root N C n) n=some pg) (hl:pg.length=256) :
 ∃ x r b,selC key ep p root N C n=some (x,r)∧r.Wf∧BZ p (n:Int) (1 - (oldC p root N n).pl)=((b:Nat):Int)∧b≤1000∧putI (putsC key ep p root N C (n+1))=putI (putsC key ep p root N C n)++[((b:Int),x)]∧(oldC p root N n).Wf∧(0≤(oldC p root N n).pl∧(oldC p root N n).pl≤1) ∧
  hideR key ep (1 - (oldC p root N n).pl) (b:Int) pg=(x,r,0):=by
 obtain ⟨h1,h2⟩:=sel_ok G ht hp hl
 have ho:=opl_ok G ht
 have hbi:=blk_int G ht
 have ho2:oplC p root N n=(oldC p root N n).pl:=rfl
 have h4:=itn_le259 p G.h1
 have hbz:BZ p (n:Int) (1 - (oldC p root N n).pl)=((blkC p root N n:Nat):Int):=by
  obtain ⟨k,hk⟩:∃ k:Nat,1 - (oldC p root N n).pl=(k:Int):=⟨(1 - (oldC p root N n).pl).toNat,by omega⟩
  rw [hk,BZ_at p n k hn (by omega),←hbi,ho2]
  omega
 refine ⟨_,_,blkC p root N n,h2,fr_wf (frC_some h2),hbz,by omega,?_,old_wf G n,ho,?_⟩
 ·unfold putI
  rw [putsC_some h2,List.map_append]
  rfl
 ·rw [←h1]
  unfold hidC
  rw [hbi]
  rfl
def stepX (key:Lb8) (ep:BitVec 32) (p:Nat) (root:RefV) (N:List NdV) (C:List ChV) (n:Nat):Nat→List RefV
 | 0=>findD N (n:Int)
 | k+1=>if tchC p C (fst p n+k)=true then (stepX key ep p root N C n k).set k ((frC key ep p root N C (fst p n+k)).getD zref) else stepX key ep p root N C n k
theorem stepX_length (n k:Nat):(stepX key ep p root N C n k).length=(findD N (n:Int)).length:=by
 induction k with
 | zero=>rfl
 | succ k ih=>rw [stepX];split <;> simp [ih]
theorem stepX_wf (hN:∀ x∈N,∀ r∈x.2,r.Wf) (n k:Nat):∀ r∈stepX key ep p root N C n k,r.Wf:=by
 induction k with
 | zero=>exact findD_wf hN _
 | succ k ih=>
  rw [stepX]
  split
  ·intro r hr
   rcases List.mem_or_eq_of_mem_set hr with a | a
   ·exact ih r a
   ·rw [a]
    cases e:frC key ep p root N C (fst p n+k) with
    | none=>exact zref_wf
    | some r=>exact fr_wf e
  ·exact ih
theorem stepX_end (G:GoodC p root N C) {n:Nat} (hp:p≤n) (hn:n < itn p) (ht:isN p (pgsC C) n=true):stepX key ep p root N C n (many p n)=refsC key ep p root N C n n:=by
 have hd:=(((may_iff p N C).1 G.may).2 n hn ht).1
 have hk:=node_kids p n G.h0 G.h1 hp hn
 have hg:∀ k t,k≤many p n→t < many p n→(stepX key ep p root N C n k).getD t zref=if t < k then (frC key ep p root N C (fst p n+t)).getD ((findD N (n:Int)).getD t zref) else (findD N (n:Int)).getD t zref:=by
  intro k
  induction k with
  | zero=>intro t _ _;rw [if_neg (by omega)];rfl
  | succ k ih=>
   intro t hk2 ht2
   have ih:=ih t (by omega) ht2
   rw [stepX]
   by_cases e:t=k
   ·subst e
    rw [if_pos (Nat.lt_succ_self t)]
    rw [if_neg (Nat.lt_irrefl t)] at ih
    cases h:tchC p C (fst p n+t) with
    | true=>
     rw [if_pos rfl,getD_set_self _ _ _ (by rw [stepX_length,hd];exact ht2)]
     obtain ⟨pg,hpg,hl⟩:=page_ok (key:=key) (ep:=ep) G (show fst p n+t < itn p by omega) h
     rw [frC_some (sel_ok G h hpg hl).2]
     rfl
    | false=>
     rw [if_neg (by simp),ih,frC_none (sel_none h)]
     rfl
   ·have:(if tchC p C (fst p n+k)=true then (stepX key ep p root N C n k).set k ((frC key ep p root N C (fst p n+k)).getD zref) else stepX key ep p root N C n k).getD t zref=(stepX key ep p root N C n k).getD t zref:=by
     split
     ·exact getD_set_ne _ _ _ _ (fun g=>e g.symm)
     ·rfl
    rw [this,ih]
    by_cases g:t < k
    ·rw [if_pos g,if_pos (by omega)]
    ·rw [if_neg g,if_neg (by omega)]
 refine refs_ext (by rw [stepX_length,hd]) (refsC_length n n) fun t ht2=>?_
 rw [hg _ t (Nat.le_refl _) ht2,if_pos ht2,refsC_get n n t ht2,if_pos (by omega)]
end
theorem elemBlR:elemR Tryz.prog 142 4 (.bool false) 1 1:=⟨Tryz.underlying142,by kernel_rfl⟩
theorem elemPtRr:elemR Tryz.prog 52 152 (.agg #[.int .i64 0,.slice none 0 0]) 2 32:=⟨Tryz.underlying52,by kernel_rfl⟩
theorem elemNdRr:elemR Tryz.prog 28 124 (.agg #[.int .i64 0,.slice none 0 0]) 2 32:=⟨Tryz.underlying28,by kernel_rfl⟩
theorem buildPtRr (z:Int) (a2:Option Addr) (l c:Nat) (wx:World):(Instr.build 152 #[(0,.int .i64 z),(1,.slice a2 l c)]).run Tryz.prog wx=.ok (.agg (ndRow z (.slice a2 l c))) wx:=by
 unfold ndRow
 kernel_rfl
theorem builtPtRr (z:Int) (a2:Option Addr) (l c:Nat):Tryz.prog.builtSlice 152 1 [(0,.agg (ndRow z (.slice a2 l c)))]=some (ndRow z (.slice a2 l c)):=by
 unfold ndRow
 kernel_rfl
theorem buildNdRr (z:Int) (a2:Option Addr) (l c:Nat) (wx:World):(Instr.build 124 #[(0,.int .i64 z),(1,.slice a2 l c)]).run Tryz.prog wx=.ok (.agg (ndRow z (.slice a2 l c))) wx:=by
 unfold ndRow
 kernel_rfl
theorem builtNdRr (z:Int) (a2:Option Addr) (l c:Nat):Tryz.prog.builtSlice 124 1 [(0,.agg (ndRow z (.slice a2 l c)))]=some (ndRow z (.slice a2 l c)):=by
 unfold ndRow
 kernel_rfl
theorem infoPtsR:(Tryz.prog.info? 52).map (·.size)=some 1:=by kernel_rfl
theorem infoNdsR:(Tryz.prog.info? 28).map (·.size)=some 1:=by kernel_rfl
theorem infoBlR:(Tryz.prog.info? 4).map (·.size)=some 1:=by kernel_rfl
theorem rpJ_make {w6 w8 w9 wA wB:World} {m:Nat} {root:RefV} {vk:Value} {KI:List Int} (h8:Below (w6.alloc (.cells (toldC (.slice none 0 0) (.slice none 0 0) root 0) 54)).heap.size (w6.alloc (.cells (toldC (.slice none 0 0) (.slice none 0 0) root 0) 54)) w8) (h9:Below w8.heap.size w8 w9) (hk:OwnV w9 w8.heap.size 3 vk (iz KI))
 (hA:wA.ownsRow w9.heap.size 25 34 (.slice (some ⟨w9.heap.size,0,none⟩) m m) m (refCs (List.replicate m zref))) (bA:Below w9.heap.size w9 wA) (hB:wB.ownsRow wA.heap.size 4 1 (.slice (some ⟨wA.heap.size,0,none⟩) m m) m ((List.replicate m false).map Value.bool)) (bB:Below wA.heap.size wA wB) (h0:0 < m) :
 RpJ w6 wB w6.heap.size w9.heap.size wA.heap.size (.slice none 0 0) (.slice none 0 0) (fun _=>False) [] [] (fun _=>False) [] [] (List.replicate m zref) (List.replicate m false) root vk KI:=by
 have s7:(w6.alloc (.cells (toldC (.slice none 0 0) (.slice none 0 0) root 0) 54)).heap.size=w6.heap.size+1:=by simp
 have s8:=h8.size;have s9:=h9.size;have sA:=bA.size;have sB:=bB.size
 have b7:Below w6.heap.size w6 (w6.alloc (.cells (toldC (.slice none 0 0) (.slice none 0 0) root 0) 54)):=(Below.refl _ _).alloc (Nat.le_refl _) _
 have o7:=at_new w6 (toldC (.slice none 0 0) (.slice none 0 0) root 0) 54
 have o8:=o7.below h8 o7.lt
 have o9:=o8.below h9 o8.lt
 have oA:=o9.below bA o9.lt
 have fA:=made_at hA h0
 refine ⟨⟨((((b7.trans (h8.mono (by omega))).trans (h9.mono (by omega))).trans (bA.mono (by omega))).trans (bB.mono (by omega))),oA.below bB oA.lt,fA.below bB fA.lt,made_at hB h0,ownL_nil _ _ _,ownL_nil _ _ _,fun _ h=>h.elim,fun _ h=>h.elim,Nat.le_refl _,by omega,by omega⟩,ownsRow_base (ownsRow_below (ownsRow_below hk bA) bB) (by omega),fun _ h=>h.elim,fun _ h=>h.elim⟩
section
variable {key:Lb8} {ep:BitVec 32} {p:Nat} {root:RefV} {N:List NdV} {C:List ChV}
theorem parent_of (G:GoodC p root N C) {n:Nat} (hn:n < itn p) (ht:n+1 < itn p→isN p (pgsC C) (parN p n).1=true):∃ (zq za:Int) (zo:Bool),PZ p (n:Int)=(zq,za,zo)∧((zo=true∧∃ q a:Nat,zq=(q:Int)∧za=(a:Int)∧a < (findD N (q:Int)).length∧(findD N (q:Int)).length≤6∧(findD N (q:Int)).getD a zref=oldC p root N n)∨(zo=false∧oldC p root N n=root)):=by
 by_cases hr:n+1 < itn p
 ·have hl:=par_lev p n G.h0 G.h1 hr
  have hk:=(kid_iff p (parN p n).1 n (parN p n).2 G.h0 G.h1 hl.2.2.2.1 hl.2.2.1).2 ⟨hr,rfl⟩
  have hd:=(((may_iff p N C).1 G.may).2 _ hl.2.2.1 (ht hr)).1
  refine ⟨_,_,_,by unfold PZ;rw [if_pos ⟨by omega,by omega⟩,Int.toNat_natCast],.inl ⟨rfl,_,_,rfl,rfl,by rw [hd];exact hk.1,by rw [hd];exact many_le _ _,?_⟩⟩
  unfold oldC
  rw [if_pos hr]
 ·refine ⟨0,0,false,by unfold PZ;rw [if_neg (by omega)],.inr ⟨rfl,oldC_last hr⟩⟩
end
structure TailF (key:Lb8) (ep:BitVec 32) (p:Nat) (root:RefV) (N:List NdV) (C:List ChV) (n:Nat) (pg x:Lb8) (r:RefV) (b:Nat):Prop where
 wf:r.Wf
 bz:BZ p (n:Int) (1 - (oldC p root N n).pl)=(b:Int)
 b1:b≤1000
 put:putI (putsC key ep p root N C (n+1))=putI (putsC key ep p root N C n)++[((b:Int),x)]
 ow:(oldC p root N n).Wf
 o0:0≤(oldC p root N n).pl
 o1:(oldC p root N n).pl≤1
 hd:hideR key ep (1 - (oldC p root N n).pl) (b:Int) pg=(x,r,0)
 rt:rootC key ep p root N C (n+1)=if n+1=itn p then r else root
 ft:∀ F T,FtI key ep p root N C n F T→FtI key ep p root N C (n+1) (F.set n r) (T.set n true)
 par:∃ (zq za:Int) (zo:Bool),PZ p (n:Int)=(zq,za,zo)∧((zo=true∧∃ q a:Nat,zq=(q:Int)∧za=(a:Int)∧a < (findD N (q:Int)).length∧(findD N (q:Int)).length≤6∧(findD N (q:Int)).getD a zref=oldC p root N n)∨(zo=false∧oldC p root N n=root))
section
variable {key:Lb8} {ep:BitVec 32} {p:Nat} {root:RefV} {N:List NdV} {C:List ChV}
theorem tailF_ok (G:GoodC p root N C) {n:Nat} (hn:n < itn p) (ht:tchC p C n=true) {pg:Lb8} (hp:pageC p N C (frL key ep p root N C n) n=some pg) (hl:pg.length=256):∃ x r b,TailF key ep p root N C n pg x r b:=by
 obtain ⟨x,r,b,h1,h2,h3,h4,h5,h6,h7,h8⟩:=tail_ok G hn ht hp hl
 refine ⟨x,r,b,h2,h3,h4,h5,h6,h7.1,h7.2,h8,?_,fun F T h=>h.set hn ht h1 h2,parent_of G hn fun hi=>tch_par G ht hi⟩
 split
 ·rename_i e
  have e2:itn p - 1=n:=by omega
  rw [e,rootC_last G.h0 G.h1 (s:=(x,r)) (by rw [e2];exact h1)]
 ·exact rootC_lt (by omega)
theorem caseA (G:GoodC p root N C) {n:Nat} (hn:n < itn p) (hc:(pgsC C).contains (n:Int)=true):∃ pg,lastC C n C.length=some pg∧pg.length=256∧(∃ x r b,TailF key ep p root N C n pg x r b)∧ndsC key ep p root N C (n+1)=ndsC key ep p root N C n:=by
 have hr:=((may_iff p N C).1 G.may).1
 have hp:=pg_lt hr hc
 obtain ⟨j,hj,e⟩:=mem_pgsC.1 (List.contains_iff_mem.1 hc)
 have hcp:=chgP_get hr hj e
 have hl:=(hr j hj).2.1
 refine ⟨_,(last_chg hr hc).trans hcp,hl,tailF_ok G hn (tch_page hr hc) (by unfold pageC;rw [if_pos hp];exact hcp) hl,?_⟩
 rw [nds_succ,isN_lowR hp,if_neg (by decide),List.append_nil]
theorem caseB (G:GoodC p root N C) {n:Nat} (hn:n < itn p) (_hc:(pgsC C).contains (n:Int)=false) (hk:(needI p (pgsC C)).contains (n:Int)=true):p≤n∧(findD N (n:Int)).length=many p n∧(layN (refsC key ep p root N C n n)).1.length=256∧(∃ x r b,TailF key ep p root N C n (layN (refsC key ep p root N C n n)).1 x r b)∧ndsC key ep p root N C (n+1)=ndsC key ep p root N C n++[((n:Int),refsC key ep p root N C n n)]∧stepX key ep p root N C n (many p n)=refsC key ep p root N C n n:=by
 have hi:isN p (pgsC C) n=true:=by rw [←has_need p _ n hn];exact hk
 have hp:=((isN_iff p _ n).1 hi).1
 have hl:=layC_len (key:=key) (ep:=ep) G n n hp hn hi
 refine ⟨hp,(((may_iff p N C).1 G.may).2 n hn hi).1,hl,tailF_ok G hn (tch_nodeR hi) (by unfold pageC;rw [if_neg (by omega),if_pos hi];rfl) hl,by rw [nds_succ,hi,if_pos rfl],stepX_end G hp hn hi⟩
theorem caseC (G:GoodC p root N C) {n:Nat} (hn:n < itn p) (hc:(pgsC C).contains (n:Int)=false) (hk:(needI p (pgsC C)).contains (n:Int)=false):putsC key ep p root N C (n+1)=putsC key ep p root N C n∧ndsC key ep p root N C (n+1)=ndsC key ep p root N C n∧rootC key ep p root N C (n+1)=root∧∀ F T,FtI key ep p root N C n F T→FtI key ep p root N C (n+1) F T:=by
 have hb:=itn_big p G.h0 G.h1
 have hi:isN p (pgsC C) n=false:=by rw [←has_need p _ n hn];exact hk
 have ht:=tch_no hc hi
 have hs:=sel_none (key:=key) (ep:=ep) (root:=root) (N:=N) ht
 refine ⟨putsC_none hs,by rw [nds_succ,hi,if_neg (by decide),List.append_nil],?_,fun F T h=>h.keep hn ht⟩
 unfold rootC
 split
 ·have e:itn p - 1=n:=by omega
  rw [e,frC_none hs];rfl
 ·rfl
end
theorem at_range {w:World} {b:Nat} {t:TypeId} {F:List RefV} (h:At w b (refCs F).toArray t) (hw:∀ r∈F,r.Wf) {i:Nat} (hi:i < F.length):w.rangeAt b (i*34) (refL (F.getD i zref)):=by
 intro j v hv
 have hj:j < 34:=by
  have:=(List.getElem?_eq_some_iff.1 hv).1
  rwa [refL_length (getD_wf hw i)] at this
 rw [h.cell (i*34+j),List.getElem?_toArray,refCs_get F hw i j hi hj]
 exact hv
theorem wput_out {w w2:World} {B B':Nat} {v:Value} {L:List (Nat × Lb8)} (h:WPut (fun k=>B≤k) w v L) (hB:B'≤B) (hs:w.heap.size≤w2.heap.size) (hk:∀ k,B≤k→w2.heap[k]?=w.heap[k]?):WPut (fun k=>B'≤k) w2 v L:=by
 obtain ⟨ws,e1,e2⟩:=WPut.keep h hs fun k hk' _=>hk k hk'
 exact ⟨ws,e1.mono fun _ _ a=>⟨a.1,SlR.mono a.2 fun k hk _=>Nat.le_trans hB hk⟩,SlR.mono e2 fun k hk _=>Nat.le_trans hB hk⟩
end Sha
end Go.Proofs.YtplmfmpbkjnbaaaGreatDoor
