/- My own texts, merged. -/
import Derived.Test.YtlhnegbjoncieaaGreatDoorBL39
import Derived.Test.YtlhnegbjoncieaaGreatDoorBL28
import Derived.Test.YtlhnegbjoncieaaGreatDoorBL09
import Derived.Test.YtlhnegbjoncieaaGreatDoorBL35
import Derived.Test.YtlhnegbjoncieaaGreatDoorBL36
import Derived.Test.YtlhnegbjoncieaaGreatDoorBL37
import Derived.Test.YtlhnegbjoncieaaGreatDoorBL34
import Derived.Test.YtlhnegbjoncieaaGreatDoorBL26
import Derived.Test.YtlhnegbjoncieaaGreatDoorBL23
import Derived.Test.YtlhnegbjoncieaaGreatDoorBL29
import Derived.Test.YtlhnegbjoncieaaGreatDoorBL33
import Derived.Test.YtlhnegbjoncieaaGreatDoorBL38
import Derived.Test.YtlhnegbjoncieaaGreatDoorBL40
import Derived.Test.YtlhnegbjoncieaaGreatDoorBL14
import Derived.Test.YtlhnegbjoncieaaGreatDoorBL16
set_option maxRecDepth 100000
set_option maxHeartbeats 8000000
namespace Go.Proofs.YtlhnegbjoncieaaGreatDoor
namespace Sha
open Go.RowKit Mem
set_option maxRecDepth 100000
def QC (p:Nat) (C:List ChV):Nat→Prop:=fun q=>q < itn p∧isN p (pgsC C) q=true
theorem QC.p {p:Nat} {C:List ChV} {q:Nat} (h:QC p C q):p≤q:=((isN_iff p _ q).1 h.2).1
section
variable {w1 w:World} {bd bm:Nat} {f:Int→Option Value} {key:Lb8} {ep:BitVec 32} {p:Nat} {root root':RefV} {Q:Nat→Prop} {M M':Nat→List RefV} {vp:Value} {D:Foot} {ws:List (Nat × Value)} {L L':List (Nat × Lb8)} {N:List NdV} {C:List ChV}
theorem DrI.alike (h:DrI w1 w bd bm f key ep p root Q M vp D ws L) (hr:root'=root) (hM:∀ q,Q q→M' q=M q) (hL:L'=L):DrI w1 w bd bm f key ep p root' Q M' vp D ws L':=by
 subst hr
 subst hL
 exact ⟨h.b,h.gd,h.row,⟨h.mp.m,h.mp.g,fun q hq=>by rw [hM q hq];exact h.mp.own q hq,h.mp.dis⟩,h.e,h.po,h.d,h.kl,h.rw,fun q hq=>by rw [hM q hq];exact h.mw q hq⟩
theorem HdEnd.alike {e:Ending} {w':World} (h:HdEnd w1 w bd bm f key ep p root Q M vp D L e w') (hr:root'=root) (hM:∀ q,Q q→M' q=M q) (hL:L'=L):HdEnd w1 w bd bm f key ep p root' Q M' vp D L' e w':=
 let ⟨he,⟨vp',D',ws',hd,hD⟩,hc⟩:=h
 ⟨he,⟨vp',D',ws',hd.alike hr hM hL,hD⟩,hc⟩
theorem putsC_length (n:Nat):(putsC key ep p root N C n).length≤n:=by
 induction n with
 | zero=>exact Nat.le_refl _
 | succ n ih=>
  rw [putsC_succ,List.length_append]
  have:((selC key ep p root N C n).map fun s=>(blkC p root N n,s.1)).toList.length≤1:=by
   cases selC key ep p root N C n <;> simp
  omega
theorem phide16_any {i:Nat} (G:GoodC p root N C) (h:DrI w1 w bd bm f key ep p (rootC key ep p root N C i) (QC p C) (refsC key ep p root N C i) vp D ws (putsC key ep p root N C i)) (hT:TT w1) (hi:i < itn p) (ht:tchC p C i=true) (pg:Lb8) (hpg:pageC p N C (frL key ep p root N C i) i=some pg) (hp:pg.length=256) (v:Value) (hv:Sl w v pg) :
 Calls Tryz.prog 52 #[.pointer (some ⟨bd,0,none⟩),.int .i64 (i:Int),v] w (HdEnd w1 w bd bm f key ep p (rootC key ep p root N C (i+1)) (QC p C) (refsC key ep p root N C (i+1)) vp D (putsC key ep p root N C (i+1))):=by
 have hit:=itn_le259 p G.h1
 obtain ⟨s1,s2⟩:=sel_ok (key:=key) (ep:=ep) G ht hpg hp
 have ho:=opl_ok G ht
 have hb:=blk_int G ht
 have hL:=putsC_length (key:=key) (ep:=ep) (root:=root) (N:=N) (C:=C) (p:=p) i
 have hputs:=putsC_some s2
 obtain ⟨x,hx⟩:∃ x,x=sealL key ep (blkC p root N i:Nat) pg:=⟨_,rfl⟩
 rw [←hx] at s1 s2 hputs
 obtain ⟨r,hr⟩:∃ r:RefV,r=⟨1 - oplC p root N i,ep,digestOf x⟩:=⟨_,rfl⟩
 rw [←hr] at s1 s2 hputs
 have hrw:r.Wf:=by rw [hr];exact wf_dig _ _ _ (by omega) (by omega)
 have hh:hideR key ep (1 - (oldC p root N i).pl) ((blkC p root N i:Nat):Int) pg=(x,r,0):=by rw [←hb];exact s1
 rw [rootC_lt hi] at h
 by_cases hn:i+1 < itn p
 ·obtain ⟨q,hq⟩:∃ q,q=(parN p i).1:=⟨_,rfl⟩
  obtain ⟨t,htt⟩:∃ t,t=(parN p i).2:=⟨_,rfl⟩
  have hl:=par_lev p i G.h0 G.h1 hn
  have hk:=(kid_iff p q i t G.h0 G.h1 (by rw [hq];exact hl.2.2.2.1) (by rw [hq];exact hl.2.2.1)).2 ⟨hn,by rw [hq,htt]⟩
  have hQ:QC p C q:=⟨by rw [hq];exact hl.2.2.1,by rw [hq];exact tch_par G ht hn⟩
  have hlen:(refsC key ep p root N C i q).length=many p q:=refsC_length i q
  have hold:=refsC_old (key:=key) (ep:=ep) (p:=p) (root:=root) (N:=N) (C:=C) G.h0 G.h1 hn
  rw [←hq,←htt] at hold
  have hown:=refsC_own (key:=key) (ep:=ep) (p:=p) (root:=root) (N:=N) (C:=C) G.h0 G.h1 s2 hn
  rw [←hq,←htt] at hown
  obtain ⟨vq,hvq,_⟩:=h.mp.own q hQ
  have h6:=many_le p q
  obtain ⟨g,cap,cur,ev,hcur,hfit,hrg,_⟩:=h.setSlot hrw hQ hvq (t:=t) (by omega)
  subst ev
  rw [hlen] at hvq
  rw [hold] at hrg
  have hpz:PZ p (i:Int)=((q:Int),(t:Int),true):=by unfold PZ;rw [if_pos ⟨by omega,by omega⟩,Int.toNat_natCast,hq,htt]
  refine (phide16_core h hT G.h1 i hi pg v hv hp (oldC p root N i) ho (by omega) g (0+t*34) cur 38 hcur (by omega) hrg (.inr (.inr ⟨q,_,hQ,hvq,rfl⟩)) (prefSlot_any h G.h1 i q t hpz g (many p q) cap (by have:=hQ.1;omega) hvq hk.1 (many_le p q)) (blkC p root N i) hb.symm x r hh root (fun x=>if x=q then (refsC key ep p root N C i q).set t r else refsC key ep p root N C i x) (fun w' hd hat=>?_)).mono fun e w' he=>he.alike (by rw [rootC_lt hn]) (fun q' hq'=>?_) hputs
  ·obtain ⟨g',cap',cur',ev,hcur',_,_,hset⟩:=hd.setSlot hrw hQ hvq (t:=t) (by omega)
   injection ev with ev1 _ _
   injection ev1 with ev1
   injection ev1 with ev1 _ _
   subst ev1
   have ec:cur'=cur:=by
    unfold At at hat hcur'
    rw [hat] at hcur'
    injection hcur' with hcur'
    injection hcur' with e1 _ _
    exact e1.symm
   rw [ec] at hset
   rw [Nat.zero_add]
   exact hset
  ·by_cases e:q'=q
   ·subst e
    rw [if_pos rfl];exact hown
   ·rw [if_neg e]
    exact refsC_other G.h0 G.h1 hq'.p hq'.1 (fun _=>by rw [←hq];exact e)
 ·have hpz:PZ p (i:Int)=(0,0,false):=by unfold PZ;rw [if_neg (by omega)]
  have hold:oldC p root N i=root:=oldC_last hn
  rw [hold] at hh
  have hrg:w.rangeAt bd 35 (refL root):=h.cells.root
  have hei:i=itn p - 1:=by omega
  have s3:selC key ep p root N C (itn p - 1)=some (x,r):=by rw [←hei];exact s2
  refine (phide16_core h hT G.h1 i hi pg v hv hp root (by rw [←hold];exact ho) (by omega) bd 35 (drC key ep p root bm vp) 131 h.row (by rw [drC_size h.kl h.rw];decide) hrg (.inl rfl) (prefRoot_any h G.h1 i hpz) (blkC p root N i) (by rw [←hb];unfold oplC;rw [hold]) x r hh r (refsC key ep p root N C i) (fun w' hd hat=>?_)).mono fun e w' he=>he.alike (by rw [show i+1=itn p by omega];exact rootC_last G.h0 G.h1 s3) (fun q' hq'=>refsC_other G.h0 G.h1 hq'.p hq'.1 fun hh=>absurd hh hn) hputs
  have e35:drC key ep p root bm vp=drC key ep p root bm vp:=rfl
  exact hd.setRoot hrw
end
end Sha
end Go.Proofs.YtlhnegbjoncieaaGreatDoor
namespace Go.Proofs.YtlhnegbjoncieaaGreatDoor
namespace Sha
open Go.RowKit Mem
set_option maxRecDepth 100000
section
variable {w1 w:World} {bd bm:Nat} {f:Int→Option Value} {key:Lb8} {ep:BitVec 32} {p i:Nat} {root:RefV} {vp:Value} {D:Foot} {ws:List (Nat × Value)} {N:List NdV} {C:List ChV}
theorem phideNode_any (G:GoodC p root N C) (h:DrI w1 w bd bm f key ep p (rootC key ep p root N C i) (QC p C) (refsC key ep p root N C i) vp D ws (putsC key ep p root N C i)) (hT:TT w1) (hq:QC p C i) :
 Calls Tryz.prog 53 #[.pointer (some ⟨bd,0,none⟩),.int .i64 (i:Int)] w (HdEnd w1 w bd bm f key ep p (rootC key ep p root N C (i+1)) (QC p C) (refsC key ep p root N C (i+1)) vp D (putsC key ep p root N C (i+1))):=by
 have hit:=itn_le259 p G.h1
 have hpi:=hq.p;have hq1:=hq.1
 obtain ⟨vq,hvq,hoq⟩:=h.mp.own i hq
 have hwf:=h.mw i hq
 have hsl:=own_slrf hoq hwf
 have h6:=many_le p i
 have ly:=fun wx (hb:Below w.heap.size w wx)=>play13_any (refsC key ep p root N C i i) vq wx (hsl.below hb) hwf
 have hok:=layC_ok (key:=key) (ep:=ep) G i i hpi hq.1 hq.2
 have hln:=layC_len (key:=key) (ep:=ep) G i i hpi hq.1 hq.2
 rw [hok] at ly
 have ht:tchC p C i=true:=by unfold tchC;rw [if_neg (by omega)];exact hq.2
 have hpg:pageC p N C (frL key ep p root N C i) i=some (layN (refsC key ep p root N C i i)).1:=by unfold pageC;rw [if_neg (by omega),if_pos hq.2];rfl
 have hd:=fun v wx (hb:Below w.heap.size w wx) hv=>phide16_any G (h.below hb) hT hq.1 ht _ hpg hln v hv
 obtain ⟨nm,hm,_⟩:=h.mp.m
 have hcm:=h.cells.map
 have hbl:=h.row.lt
 obtain ⟨a,c,ea⟩:=hsl.hd
 subst ea
 have hfq:(f (i:Int)).getD (.slice none 0 0)=.slice a (refsC key ep p root N C i i).length c:=by rw [hvq];rfl
 rw [refsC_length] at hfq ly
 obtain ⟨PG,hPG⟩:∃ P,P=(layN (refsC key ep p root N C i i)).1:=⟨_,rfl⟩
 rw [←hPG] at ly hln hd
 obtain ⟨m,hmm⟩:∃ m,m=many p i:=⟨_,rfl⟩
 rw [←hmm] at hfq ly
 have LY:=zh ly;have LN:=zh hln;have HD:=zh hd;have HM:=zh hm;have CM:=zh hcm;have BL:=zh hbl;have FQ:=zh hfq;have WQ:=zh (wfI_nat i (by omega));have H0:=zh h
 clear hq1 ly hln hd hm hcm hbl hfq hPG hmm hpg ht hok h6 hsl hwf hoq hvq h hpi hit hT
 go_enter Tryz.func53,Tryz.ntmps53
 have cm:w.cell? ⟨bd,69,none⟩=some (.map (some bm)):=CM.out
 go_wp2_with (at_lookup;refine wpList_mapV_look zr 128 _ _ zr 27 HM.out (i:Int) zr zr uInt16 uRf16 (.slice none 0 0) (zeroSRf _) WQ.out (.slice a m c) FQ.out ?_)
 refine (LY.out _ (Below.refl _ _)).mono ?_
 rintro e w2 ⟨v2,rfl,hs2,hb2⟩
 have S2:=zh hs2;have B2:=zh hb2
 clear hs2 hb2 cm
 obtain ⟨a2,c2,e2⟩:=sl_inv S2.out
 subst e2
 rw [LN.out] at S2 ⊢
 go_wp2_with fail
 refine (HD.out _ _ B2.out S2.out).mono ?_
 rintro e w3 ⟨rfl,⟨vp3,D3',ws3,hd3,hD3⟩,hc3⟩
 have D3:=zh hd3;have E3:Hid (∀ k,D3' k→D k∨w.heap.size≤k):=zh (fun k hk=>(hD3 k hk).imp id fun g=>Nat.le_trans B2.out.size g);have C3:Hid (Chg (DrF bd vp f (QC p C)) w w3):=zh ((Chg.of_below (F:=DrF bd vp f (QC p C)) B2.out).trans hc3 (fun k hk=>.inl hk))
 clear hd3 hc3 hD3
 go_wp2_with fail
 go_ret
 exact ⟨rfl,⟨vp3,D3',ws3,D3.out,E3.out⟩,C3.out⟩
end
end Sha
end Go.Proofs.YtlhnegbjoncieaaGreatDoor
namespace Go.Proofs.YtlhnegbjoncieaaGreatDoor
namespace Sha
open Go.RowKit Mem
set_option maxRecDepth 100000
theorem ret_vvrv {P:Program} {fn:Func} {R:Ending→World→Prop} {tmps:Array Value} {w:World} {q q2 p u:Tmp} {ty:TypeId} (h:fn.results=#[.tmp q,.tmp q2,.cell p ty,.tmp u]) (g:Nat) (t:TypeId) (cs:Array Value) (d:TypeDesc) (v1 v2 v:Value)
 (hq:tmps.getD q undef=v1) (hq2:tmps.getD q2 undef=v2) (hp:tmps.getD p undef=.pointer (some ⟨g,0,none⟩)) (hv:tmps.getD u undef=v) (hg:At w g cs t) (hu:P.underlying ty=some d) (hd:d.isRow=true) (hi:(P.info? ty).map (·.size)=some cs.size)
 (hR:R (.returned (.tuple #[v1,v2,.agg cs,v])) w):bodyPost P fn R .ret ⟨tmps,[]⟩ w:=by
 refine bodyPost_ret (v:=.tuple #[v1,v2,.agg cs,v]) ?_ rfl hR
 have hrow:=run_loadVar_row (P:=P) w g t ty cs (0,0) d hg hu (by cases d <;> first | rfl | exact hd) hi
 rw [Array.getD_eq_getD_getElem?] at hq hq2 hp hv
 simp only [results,h]
 simp [Result.andThen,hq,hq2,hp,hv,asAddr,hrow]
section
variable {P:Program} {ops:Array Oper} {Q:Exit→Act→World→Prop} {S:World→Prop} {w:World} {a:Act} {o:Oper} {i:Nat} {r:Plan}
theorem run_box_agg (ty:TypeId) (C:Array Value) (w:World):(Instr.box ty (.agg C)).run P w=.ok (.pointer (some ⟨w.heap.size,0,none⟩)) (w.alloc (.cells C ty)):=by
 rfl
theorem plan_box (ty:TypeId) (x:Operand) (C:Array Value) (ho:ops.toList[i]?=some o) (hw:Region.wanted o (yielded ops a.tmps)=true) (hop:o.op=.box ty x) (hx:a.eval x=.agg C)
 (hS:S (w.alloc (.cells C ty))) (h:wpPlan P ops Q S r (a.put o.dst (.pointer (some ⟨w.heap.size,0,none⟩))) (w.alloc (.cells C ty))):wpPlan P ops Q S (.sole i r) a w:=by
 refine wpOp_at ho hw ?_
 unfold Oper.wp execOp
 simp only [hop,hx,Sem.run_bind,run_box_agg,Result.andThen_ok,Sem.run_pure]
 exact ⟨hS,h⟩
end
def ndVs (f:Int→Option Value) (L:List Nat):List Value:=L.flatMap fun (q:Nat)=>[.int .i64 (q:Int),(f (q:Int)).getD undef]
theorem ndVs_snoc (f:Int→Option Value) (L:List Nat) (q:Nat) {v:Value} (h:f (q:Int)=some v):ndVs f (L++[q])=ndVs f L++[.int .i64 (q:Int),v]:=by simp [ndVs,h]
theorem ndVs_at (f:Int→Option Value):∀ (L:List Nat) (i:Nat),i < L.length→(ndVs f L)[i*2]?=some (.int .i64 ((L.getD i 0:Nat):Int))∧(ndVs f L)[i*2+1]?=some ((f ((L.getD i 0:Nat):Int)).getD undef)
 | [],i,h=>by simp at h
 | q::L,0,_=>⟨rfl,rfl⟩
 | q::L,i+1,h=>by
  have ih:=ndVs_at f L i (by simpa using h)
  have e:ndVs f (q::L)=.int .i64 (q:Int)::(f (q:Int)).getD undef::ndVs f L:=rfl
  rw [e,show (i+1)*2=i*2+1+1 by omega,show i*2+1+1+1=(i*2+1)+1+1 by omega]
  simpa using ih
theorem nodes_out {w:World} {B:Nat} {t:TypeId} {v:Value} {f:Int→Option Value} {L:List Nat} {M:Nat→List RefV} (ho:w.ownsRow B t 2 v L.length (ndVs f L)) (hr:∀ q∈L,∃ u,f (q:Int)=some u∧SlRf w u (M q)):SlNd w v (L.map fun (q:Nat)=>((q:Int),M q)):=by
 obtain ⟨_,a,cap,e,_,hc⟩:=ownsRow_slR ho
 refine ⟨a,cap,by rw [List.length_map];exact e,fun hne=>?_⟩
 obtain ⟨bb,oo,ea,_,hlt,hcell⟩:=hc (fun h=>hne (by rw [List.eq_nil_of_length_eq_zero h];rfl))
 refine ⟨bb,oo,ea,hlt,fun i hi=>?_⟩
 rw [List.length_map] at hi
 have hg:(L.map fun (q:Nat)=>((q:Int),M q)).getD i znd=(((L.getD i 0:Nat):Int),M (L.getD i 0)):=by
  rw [List.getD_eq_getElem?_getD,List.getElem?_map,List.getElem?_eq_getElem hi,List.getD_eq_getElem?_getD,List.getElem?_eq_getElem hi];rfl
 obtain ⟨h1,h2⟩:=ndVs_at f L i hi
 obtain ⟨u,hu,hs⟩:=hr (L.getD i 0) (by rw [List.getD_eq_getElem?_getD,List.getElem?_eq_getElem hi];exact List.getElem_mem hi)
 rw [hg]
 refine ⟨hcell _ _ h1,u,?_,hs⟩
 rw [Nat.add_assoc]
 rw [hu] at h2
 exact hcell _ _ h2
section
variable {w1 w w' w3 w5:World} {bd bm n:Nat} {f:Int→Option Value} {key:Lb8} {ep:BitVec 32} {p:Nat} {root:RefV} {Q:Nat→Prop} {M:Nat→List RefV} {vp vt vt':Value} {D:Foot} {ws:List (Nat × Value)} {L:List (Nat × Lb8)} {xs:List Value} {B':Nat}
theorem DrI.keep (h:DrI w1 w bd bm f key ep p root Q M vp D ws L) (hb:Below w1.heap.size w1 w') (hs:w.heap.size≤w'.heap.size) (hk:∀ k,k < w.heap.size→(k=bd∨k=bm∨vp.ownBlock=some k∨D k∨∃ q v,Q q∧f (q:Int)=some v∧v.ownBlock=some k)→w'.heap[k]?=w.heap[k]?):DrI w1 w' bd bm f key ep p root Q M vp D ws L:=by
 refine ⟨hb,h.gd,?_,h.mp.keep (hk bm h.mp.lt (.inr (.inl rfl))) fun q v k hq hv hkk=>hk k (h.mp.ltq hq hv hkk).2 (.inr (.inr (.inr (.inr ⟨q,v,hq,hv,hkk⟩)))),h.e.mono fun a c x=>⟨x.1,x.2.keep hs fun k hd hl=>hk k hl (.inr (.inr (.inr (.inl hd))))⟩,
  ownsRow_keep h.po fun k hkk=>hk k (World.ownsRow.lt h.po k hkk).2 (.inr (.inr (.inl hkk))),fun k hd=>?_,h.kl,h.rw,h.mw⟩
 ·have hr:=h.row
  have hl:=hr.lt
  unfold At at *
  rw [hk bd hl (.inl rfl)];exact hr
 ·have hh:=h.d k hd
  exact ⟨hh.1,by omega,hh.2.2⟩
theorem DrI.app (h:DrI w1 w bd bm f key ep p root Q M vp D ws L) (ho:w.ownsRow B' 118 2 vt n xs) (hD:∀ k,D k→vt.ownBlock≠some k) (hb3:Below w.heap.size w w3) (ha:App w3 w5 vt vt') (hb5:Below w1.heap.size w3 w5):DrI w1 w5 bd bm f key ep p root Q M vp D ws L:=by
 have s3:=hb3.size;have s5:=ha.size
 refine h.keep ((h.b.trans (hb3.mono h.b.size)).trans hb5) (by omega) fun k hl hk=>?_
 rw [ha.k k (by omega) ?_,hb3.block k hl]
 rcases hk with e | e | e | e | ⟨q,v,hq,hv,e⟩
 ·rw [e];exact own_ne_at ho h.row (by decide)
 ·obtain ⟨_,hm,_⟩:=h.mp.m
  rw [e];exact hm.ne_own ho
 ·exact fun e2=>ownsRow_ne h.po ho (by decide) k e e2
 ·exact hD k e
 ·obtain ⟨u,eu,hu⟩:=h.mp.own q hq
  rw [hv] at eu
  injection eu with eu
  subst eu
  exact fun e2=>ownsRow_ne hu ho (by decide) k e e2
theorem DrI.nodeF (h:DrI w1 w bd bm f key ep p root Q M vp D ws L) (ho:w.ownsRow B' 118 2 vt n xs):∀ k,vt.ownBlock=some k→¬ DrF bd vp f Q k:=by
 rintro k e (h1 | h1 | ⟨q,v,hq,hv,h1⟩)
 ·rw [h1] at e;exact own_ne_at ho h.row (by decide) e
 ·exact ownsRow_ne h.po ho (by decide) k h1 e
 ·obtain ⟨u,eu,hu⟩:=h.mp.own q hq
  rw [hv] at eu
  injection eu with eu
  subst eu
  exact ownsRow_ne hu ho (by decide) k h1 e
theorem DrI.out (h:DrI w1 w bd bm f key ep p root Q M vp D ws L) (hs:w.heap.size≤w'.heap.size) (hk:∀ k,w1.heap.size≤k→k < w.heap.size→w'.heap[k]?=w.heap[k]?):WPut (fun k=>w1.heap.size≤k) w' vp L:=
 ⟨ws,h.e.mono fun _ _ x=>⟨x.1,(x.2.keep hs fun k hd hl=>hk k (h.d k hd).1 hl).mono fun k hd _=>(h.d k hd).1⟩,(ownsRow_slR h.po).keep hs fun k hg hl=>hk k hg hl⟩
end
theorem build_dr (key:Lb8) (lk:key.length=32) (ep:BitVec 32) (p:Nat) (root:RefV) (hr:root.Wf) (bm:Nat) (wx:World):(Instr.build 131 #[(0,.pointer none),(1,.agg (u8s key).toArray),(2,.int .u32 (V ep)),(3,.agg (psC p)),(4,.agg (refC root)),(5,.map (some bm))]).run Tryz.prog wx=.ok (.agg (drC key ep p root bm (.slice none 0 0))) wx:=by
 obtain ⟨pl,re,dg⟩:=root
 have hd:dg.length=32:=hr.dg
 match key,lk,dg,hd with
 | [k0,k1,k2,k3,k4,k5,k6,k7,k8,k9,k10,k11,k12,k13,k14,k15,k16,k17,k18,k19,k20,k21,k22,k23,k24,k25,k26,k27,k28,k29,k30,k31],_,[a0,a1,a2,a3,a4,a5,a6,a7,a8,a9,a10,a11,a12,a13,a14,a15,a16,a17,a18,a19,a20,a21,a22,a23,a24,a25,a26,a27,a28,a29,a30,a31],_=>show (Instr.build _ _).run _ _=_;kernel_rfl
theorem builtNd (q:Nat) (a2:Option Addr) (l c:Nat):Tryz.prog.builtSlice 118 1 [(0,.agg (ndRow (q:Int) (.slice a2 l c)))]=some (ndRow (q:Int) (.slice a2 l c)):=by
 unfold ndRow
 kernel_rfl
theorem buildNd (q:Nat) (a2:Option Addr) (l c:Nat) (wx:World):(Instr.build 118 #[(0,.int .i64 (q:Int)),(1,.slice a2 l c)]).run Tryz.prog wx=.ok (.agg (ndRow (q:Int) (.slice a2 l c))) wx:=by
 unfold ndRow
 kernel_rfl
theorem elemNd:elemR Tryz.prog 41 118 (.agg #[.int .i64 0,.slice none 0 0]) 2 32:=⟨Tryz.underlying41,by kernel_rfl⟩
end Sha
end Go.Proofs.YtlhnegbjoncieaaGreatDoor
namespace Go.Proofs.YtlhnegbjoncieaaGreatDoor
namespace Sha
open Go.RowKit Mem
set_option maxRecDepth 100000
def PlEnd (w:World) (t:List (Nat × Lb8) × List NdV × RefV × Int) (e:Ending) (w':World):Prop:=∃ vp vn,e=.returned (.tuple #[vp,vn,.agg (refC t.2.2.1),.int .i64 t.2.2.2])∧WPut (fun k=>w.heap.size≤k) w' vp t.1∧SlNdG (fun k=>w.heap.size≤k) w' vn t.2.1∧Below w.heap.size w w'
def plW (w:World) (KC CS RC Z:Array Value):World:=(((w.alloc (.cells KC 22)).alloc (.cells CS 26)).alloc (.cells RC 38)).alloc (.cells Z 38)
structure PlB (w w4:World) (KC CS RC Z:Array Value):Prop where
 k:At w4 w.heap.size KC 22
 s:At w4 (w.heap.size+1) CS 26
 r:At w4 (w.heap.size+1+1) RC 38
 z:At w4 (w.heap.size+1+1+1) Z 38
 b:Below w.heap.size w w4
theorem plB_new (w:World) (KC CS RC Z:Array Value):PlB w (plW w KC CS RC Z) KC CS RC Z:=by
 refine ⟨(((at_new w KC _).alloc _).alloc _).alloc _,?_,?_,?_,((((Below.refl _ _).alloc (Nat.le_refl _) _).alloc (by simp) _).alloc (by simp;omega) _).alloc (by simp;omega) _⟩
 ·have h:=((at_new (w.alloc (.cells KC 22)) CS 26).alloc (.cells RC 38)).alloc (.cells Z 38)
  simpa [plW] using h
 ·have h:=(at_new ((w.alloc (.cells KC 22)).alloc (.cells CS 26)) RC 38).alloc (.cells Z 38)
  simpa [plW] using h
 ·have h:=at_new (((w.alloc (.cells KC 22)).alloc (.cells CS 26)).alloc (.cells RC 38)) Z 38
  simpa [plW] using h
theorem PlB.below {w w4 w5:World} {KC CS RC Z:Array Value} (h:PlB w w4 KC CS RC Z) (hb:Below w4.heap.size w4 w5):PlB w w5 KC CS RC Z:=
 ⟨h.k.below hb h.k.lt,h.s.below hb h.s.lt,h.r.below hb h.r.lt,h.z.below hb h.z.lt,h.b.trans (hb.mono h.b.size)⟩
theorem pplan_bad (key:Lb8) (ep:BitVec 32) (p:Nat) (root:RefV) (N:List NdV) (C:List ChV) (vn vc:Value) (w:World) (lk:key.length=32) (hr:root.Wf) (hn:SlNd w vn N) (hc:SlCh w vc C) (hN:NdWf N) (h1:p≤216) (hl:C.length≤1000) (hbad:¬ (mayT p N C=true∧plOk root=true)) :
 Calls Tryz.prog 11 #[.pointer none,.agg (u8s key).toArray,.int .u32 (V ep),.agg (psC p),.agg (refC root),vn,vc] w (PlEnd w ([],[],zref,1)):=by
 have ip:=fun wx=>isPlace16_any root.pl wx
 have my:=fun wx (h:Below w.heap.size w wx)=>pmay_any p N C vn vc wx (hn.below h) (hc.below h) hN h1 hl
 have hpd:plOk root=decide (0≤root.pl∧root.pl≤1):=rfl
 have kc:(u8s key).toArray.size=32:=by simp [u8s_length,lk]
 obtain ⟨KC,hKC⟩:∃ K,K=(u8s key).toArray:=⟨_,rfl⟩
 have cs:(psC p).size=1:=rfl
 obtain ⟨CS,hCS⟩:∃ C,C=psC p:=⟨_,rfl⟩
 have rs:=refC_size hr;have r0:=ref0 root
 obtain ⟨RC,hRC⟩:∃ R,R=refC root:=⟨_,rfl⟩
 obtain ⟨pl,hpl⟩:∃ k,k=root.pl:=⟨_,rfl⟩
 have hxr:=zeroRfP
 have hbr:=buildRf14
 unfold PlEnd
 show Calls _ _ _ _ (fun e w'=>∃ vp vn,e=.returned (.tuple #[vp,vn,.agg (refC zref),.int .i64 1])∧WPut (fun k=>w.heap.size≤k) w' vp []∧SlNdG (fun k=>w.heap.size≤k) w' vn []∧Below w.heap.size w w')
 obtain ⟨Z,hZ⟩:∃ Z,Z=refC zref:=⟨_,rfl⟩
 have zs:Z.size=34:=by rw [hZ];exact refC_size zref_wf
 have zo:Z.all (·.oneCell')=true:=by rw [hZ];exact refC_one zref
 rw [←hpl] at ip hpd r0
 rw [←hCS] at my ⊢
 rw [←hRC] at rs r0 ⊢
 rw [←hKC]
 rw [←hZ] at hxr hbr ⊢
 obtain ⟨PL,hPL⟩:∃ P,P=plOk root:=⟨_,rfl⟩
 obtain ⟨MY,hMY⟩:∃ P,P=mayT p N C:=⟨_,rfl⟩
 rw [←hPL] at hpd hbad
 rw [←hMY] at my hbad
 have cs:CS.size=1:=by rw [hCS];rfl
 have pb:=plB_new w KC CS RC Z
 obtain ⟨an,cn,rfl⟩:=hn.hd
 obtain ⟨ac,cc,rfl⟩:=hc.hd
 have IP:=zh ip;have MYY:=zh my;have PD:=zh hpd;have CSZ:=zh cs;have R0:=zh r0;have BR:=zh hbr;have ZS:=zh zs;have ZO:=zh zo;have PB:=zh pb;have BAD:=zh hbad
 clear ip my hpd cs r0 hbr zs zo pb hbad hKC hCS hRC hpl hZ hPL hMY kc rs lk hr hn hc hN hl
 go_enter Tryz.func11,Tryz.ntmps11
 go_upto_region 1 with fail
 rw [show (((w.alloc (.cells KC 22)).alloc (.cells CS 26)).alloc (.cells RC 38)).alloc (.cells Z 38)=plW w KC CS RC Z from rfl]
 generalize plW w KC CS RC Z=w4 at *
 have c0:w4.cell? ⟨w.heap.size+1+1,0,none⟩=some (.int .i64 pl):=(PB.out.r.cell 0).trans R0.out
 cases hpv:PL with
 | false=>
  have PF:Hid (decide (0≤pl∧pl≤1)=false):=zh (by rw [←PD.out];exact hpv)
  go_wp2_with fail
  refine (IP.out _).mono ?_
  rintro e w5 ⟨rfl,rfl⟩
  rw [PF.out]
  clear c0 hxr
  go_wp2_with (first
   | (refine Mem.wpList_build zr 38 _ #[] (.agg Z) zr (by simp) BR.out ?_)
   | (refine wpList_store_all zr 38 _ _ zr zr (w.heap.size+1+1+1) Z zr zr (by rw [ZS.out];exact infoRfP) Z 38 PB.out.z zr ZO.out ?_))
  try simp only [Exit.inBlock,Exit.then]
  refine ret_vvrv zr (w.heap.size+1+1+1) 38 Z _ _ _ _ zr zr zr zr (PB.out.z.row Z) Tryz.underlying38 zr (by rw [ZS.out];exact infoRfP) ?_
  exact ⟨_,_,rfl,⟨[],trivial,SlR.nil _ _ _⟩,SlNdG.nil _ _ _,below_row PB.out.b (by omega) Z⟩
 | true=>
  have PF:Hid (decide (0≤pl∧pl≤1)=true):=zh (by rw [←PD.out];exact hpv)
  have MF:Hid (MY=false):=zh (by cases h:MY with
   | false=>rfl
   | true=>exact absurd ⟨h,hpv⟩ BAD.out)
  go_wp2_with fail
  refine (IP.out _).mono ?_
  rintro e w5 ⟨rfl,rfl⟩
  rw [PF.out]
  clear c0 hxr
  go_wp2_with (refine wpList_load_is_wanted zr 26 _ zr (w.heap.size+1) 0 1 zr _ Tryz.underlying26 zr infoPS CS _ PB.out.s (by rw [CSZ.out];decide) CS (by simp [CSZ.out]) ?_)
  refine (MYY.out _ PB.out.b).mono ?_
  rintro e w6 ⟨rfl,hb6⟩
  rw [MF.out]
  have P6:=zh (PB.out.below hb6)
  clear hb6
  go_wp2_with (first
   | (refine Mem.wpList_build zr 38 _ #[] (.agg Z) zr (by simp) BR.out ?_)
   | (refine wpList_store_all zr 38 _ _ zr zr (w.heap.size+1+1+1) Z zr zr (by rw [ZS.out];exact infoRfP) Z 38 P6.out.z zr ZO.out ?_))
  try simp only [Exit.inBlock,Exit.then]
  refine ret_vvrv zr (w.heap.size+1+1+1) 38 Z _ _ _ _ zr zr zr zr (P6.out.z.row Z) Tryz.underlying38 zr (by rw [ZS.out];exact infoRfP) ?_
  exact ⟨_,_,rfl,⟨[],trivial,SlR.nil _ _ _⟩,SlNdG.nil _ _ _,below_row P6.out.b (by omega) Z⟩
end Sha
end Go.Proofs.YtlhnegbjoncieaaGreatDoor
namespace Go.Proofs.YtlhnegbjoncieaaGreatDoor
namespace Sha
open Go.RowKit Mem
set_option maxRecDepth 100000
theorem RMap.ext {w:World} {B bm c:Nat} {f:Int→Option Value} {Q Q':Nat→Prop} {M M':Nat→List RefV} (h:RMap w B bm f Q M c) (hs:∀ q,Q' q→Q q) (hM:∀ q,Q' q→M' q=M q):RMap w B bm f Q' M' c:=
 let ⟨m,g,own,dis⟩:=h
 ⟨m,g,fun q hq=>by rw [hM q hq];exact own q (hs q hq),fun q q' a b=>dis q q' (hs q a) (hs q' b)⟩
def AtCh (C:List ChV) (k m:Nat):Prop:=(∀ i,i < k→(C.getD i zch).1 < (m:Int))∧∀ i,k≤i→i < C.length→(m:Int)≤(C.getD i zch).1
section
variable {key:Lb8} {ep:BitVec 32} {p:Nat} {root:RefV} {N:List NdV} {C:List ChV}
theorem atCh_zero (G:GoodC p root N C):AtCh C 0 0:=⟨fun i h=>by omega,fun i _ h=>(((may_iff p N C).1 G.may).1 i h).1.1⟩
theorem atCh_next (G:GoodC p root N C) {k m:Nat} (h:AtCh C k m) (hk:k < C.length):∃ x:Nat,(C.getD k zch).1=(x:Int)∧x < p∧m≤x∧(C.getD k zch).2.length=256∧tchC p C x=true∧chgP C x=some (C.getD k zch).2∧AtCh C (k+1) (x+1)∧∀ i,m≤i→i < x→tchC p C i=false:=by
 have hr:=((may_iff p N C).1 G.may).1
 obtain ⟨⟨a,b⟩,c,_⟩:=hr k hk
 have hm:=h.2 k (Nat.le_refl _) hk
 obtain ⟨x,hx⟩:∃ x:Nat,(C.getD k zch).1=(x:Int):=⟨(C.getD k zch).1.toNat,by omega⟩
 refine ⟨x,hx,by omega,by omega,c,?_,chgP_get hr hk hx,⟨fun i hi=>?_,fun i h1 h2=>?_⟩,fun i h1 h2=>?_⟩
 ·unfold tchC
  rw [if_pos (by omega)]
  have:(x:Int)∈pgsC C:=mem_pgsC.2 ⟨k,hk,hx⟩
  simpa using this
 ·rcases Nat.lt_or_ge i k with g | g
  ·have:=h.1 i g;omega
  ·have:i=k:=by omega
   subst this;omega
 ·have:=rise_lt hr k i (by omega) h2;omega
 ·unfold tchC
  rw [if_pos (by omega)]
  have:(i:Int) ∉ pgsC C:=fun hh=>by
   obtain ⟨j,hj,e⟩:=mem_pgsC.1 hh
   rcases Nat.lt_or_ge j k with g | g
   ·have:=h.1 j g;omega
   ·rcases Nat.eq_or_lt_of_le g with e2 | g2
    ·subst e2;omega
    ·have:=rise_lt hr k j g2 hj;omega
  simpa using this
theorem atCh_end (_G:GoodC p root N C) {m:Nat} (h:AtCh C C.length m):∀ i,m≤i→i < p→tchC p C i=false:=fun i h1 h2=>by
 unfold tchC
 rw [if_pos h2]
 have:(i:Int) ∉ pgsC C:=fun hh=>by
  obtain ⟨j,hj,e⟩:=mem_pgsC.1 hh
  have:=h.1 j hj;omega
 simpa using this
theorem tch_node {i:Nat} (h:p≤i):tchC p C i=isN p (pgsC C) i:=by unfold tchC;rw [if_neg (by omega)]
theorem isN_low {i:Nat} (h:i < p):isN p (pgsC C) i=false:=by unfold isN;rw [decide_eq_false (by omega),Bool.false_and]
def AtNd (p:Nat) (C:List ChV) (j m:Nat):Prop:=p≤m∧(List.range m).filter (isN p (pgsC C))=(needT p (pgsC C)).take j
theorem atNd_zero:AtNd p C 0 p:=⟨Nat.le_refl _,by
 rw [List.take_zero,List.filter_eq_nil_iff]
 intro i hi
 rw [isN_low (List.mem_range.1 hi)]
 decide⟩
theorem atNd_next {j m:Nat} (h:AtNd p C j m) (hj:j < (needT p (pgsC C)).length):QC p C ((needT p (pgsC C)).getD j 0)∧m≤(needT p (pgsC C)).getD j 0∧AtNd p C (j+1) ((needT p (pgsC C)).getD j 0+1)∧(needT p (pgsC C)).take (j+1)=(needT p (pgsC C)).take j++[(needT p (pgsC C)).getD j 0]∧∀ i,m≤i→i < (needT p (pgsC C)).getD j 0→tchC p C i=false:=by
 obtain ⟨a,b,c⟩:=filter_at (isN p (pgsC C)) (itn p) j hj
 obtain ⟨h1,h2⟩:=h
 obtain ⟨x,hx⟩:∃ x,x=(needT p (pgsC C)).getD j 0:=⟨_,rfl⟩
 have hx':((List.range (itn p)).filter (isN p (pgsC C))).getD j 0=x:=hx.symm
 rw [hx'] at a b c
 rw [←hx]
 have hc:(List.range x).filter (isN p (pgsC C))=(needT p (pgsC C)).take j:=c
 have hm:m≤x:=filter_le _ (h2.trans hc.symm) b
 have ht:(needT p (pgsC C)).take (j+1)=(needT p (pgsC C)).take j++[x]:=by
  rw [List.take_add_one,List.getElem?_eq_getElem hj,hx,List.getD_eq_getElem?_getD,List.getElem?_eq_getElem hj];rfl
 refine ⟨⟨a,b⟩,hm,⟨by have:=((isN_iff p _ x).1 b).1;omega,?_⟩,ht,fun i g1 g2=>?_⟩
 ·rw [filter_succ,hc,if_pos b,ht]
 ·rw [tch_node (by omega)]
  exact filter_gap _ (h2.trans hc.symm) i g1 g2
theorem atNd_end {m:Nat} (h:AtNd p C (needT p (pgsC C)).length m) (_hm:m≤itn p):∀ i,m≤i→i < itn p→tchC p C i=false:=fun i g1 g2=>by
 obtain ⟨h1,h2⟩:=h
 rw [List.take_length] at h2
 rw [tch_node (by omega)]
 exact filter_gap _ h2 i g1 g2
theorem nds_map (G:GoodC p root N C):ndsC key ep p root N C (itn p)=(needT p (pgsC C)).map fun (q:Nat)=>((q:Int),refsC key ep p root N C (itn p) q):=by
 unfold ndsC
 show (needT p (pgsC C)).map _=_
 refine List.map_congr_left fun q hq=>?_
 have hq:=(mem_need p _ q).1 hq
 have hp:=((isN_iff p _ q).1 hq.2).1
 have hk:=node_kids p q G.h0 G.h1 hp hq.1
 congr 1
 refine refs_ext (refsC_length _ _) (refsC_length _ _) fun t ht=>?_
 rw [refsC_get _ _ _ ht,refsC_get _ _ _ ht,if_pos (by omega),if_pos (by omega)]
end
section
variable {w1 w w2:World} {bd bm:Nat} {f:Int→Option Value} {key:Lb8} {ep:BitVec 32} {p:Nat} {root:RefV} {vp:Value} {D:Foot} {ws:List (Nat × Value)} {N:List NdV} {C:List ChV}
def DrM (w1 w:World) (bd bm:Nat) (f:Int→Option Value) (key:Lb8) (ep:BitVec 32) (p:Nat) (root:RefV) (N:List NdV) (C:List ChV) (m:Nat) (vp:Value) (D:Foot) (ws:List (Nat × Value)):Prop:=DrI w1 w bd bm f key ep p (rootC key ep p root N C m) (QC p C) (refsC key ep p root N C m) vp D ws (putsC key ep p root N C m)
theorem DrM.skip {m x:Nat} (h:DrM w1 w bd bm f key ep p root N C m vp D ws) (hm:m≤x) (hx:x < itn p) (hs:∀ i,m≤i→i < x→tchC p C i=false):DrM w1 w bd bm f key ep p root N C x vp D ws:=by
 obtain ⟨a,b⟩:=skip_any (key:=key) (ep:=ep) (root:=root) (N:=N) x hm hs
 exact DrI.alike h (by rw [rootC_lt hx,rootC_lt (by omega)]) (fun q _=>b q) a
theorem DrM.fin {m:Nat} (G:GoodC p root N C) (h:DrM w1 w bd bm f key ep p root N C m vp D ws) (hm:m≤itn p) (hs:∀ i,m≤i→i < itn p→tchC p C i=false):DrM w1 w bd bm f key ep p root N C (itn p) vp D ws:=by
 obtain ⟨a,b⟩:=skip_any (key:=key) (ep:=ep) (root:=root) (N:=N) (itn p) hm hs
 refine DrI.alike h ?_ (fun q _=>b q) a
 by_cases e:m=itn p
 ·rw [e]
 ·have hb:=itn_big p G.h0 G.h1
  have hn:=sel_none (key:=key) (ep:=ep) (root:=root) (N:=N) (hs (itn p - 1) (by omega) (by omega))
  rw [rootC_lt (show m < itn p by omega)]
  unfold rootC
  rw [if_pos (Nat.le_refl _),frC_none hn]
  rfl
end
theorem pplan_good (key:Lb8) (ep:BitVec 32) (p:Nat) (root:RefV) (N:List NdV) (C:List ChV) (vn vc:Value) (w:World) (hT:TT w) (lk:key.length=32) (hn:SlNd w vn N) (hc:SlCh w vc C) (hN:NdWf N) (hl:C.length≤1000) (G:GoodC p root N C) :
 Calls Tryz.prog 11 #[.pointer none,.agg (u8s key).toArray,.int .u32 (V ep),.agg (psC p),.agg (refC root),vn,vc] w (PlEnd w (putsC key ep p root N C (itn p),ndsC key ep p root N C (itn p),rootC key ep p root N C (itn p),0)):=by
 have h0:=G.h0
 have h1:=G.h1
 have hit:=itn_le259 p h1
 have hbig:=itn_big p h0 h1
 have hr:=G.rw
 have ip:=fun wx=>isPlace16_any root.pl wx
 have my:=fun wx (h:Below w.heap.size w wx)=>pmay_any p N C vn vc wx (hn.below h) (hc.below h) hN h1 hl
 rw [G.may] at my
 have nd:=fun wx (h:Below w.heap.size w wx)=>pneedOf_any p C vc wx (hc.below h) h1 hl
 have hpd:decide (0≤root.pl∧root.pl≤1)=true:=G.rt
 have ro:=fun vk wx (h:Below w.heap.size w wx) (hk:SlI wx vk (needI p (pgsC C)))=>prefsOf_any N (needT p (pgsC C)) vn vk wx (hn.below h) hN hk (by have:=needT_len p (pgsC C) h1;omega) (fun i hi=>by have:=((mem_need p _ i).1 hi).1;omega)
 have bld0:=fun bm wx=>build_dr key lk ep p root hr bm wx
 have hnl:(needI p (pgsC C)).length=(needT p (pgsC C)).length:=by unfold needI;exact List.length_map ..
 have hng:=fun j hj=>needI_get p (pgsC C) j hj
 have hnlen:=needT_len p (pgsC C) h1
 obtain ⟨PK,hPK⟩:∃ P:World→World→Nat→Nat→(Int→Option Value)→Nat→Value→Foot→List (Nat × Value)→Prop,P=fun w1 w bd bm f m vp D ws=>DrM w1 w bd bm f key ep p root N C m vp D ws:=⟨_,rfl⟩
 have hfirst0:∀ w1 w3 bm f,Below w1.heap.size w1 w3→RMap w3 w1.heap.size bm f (fun q=>q∈needT p (pgsC C)) (fun q=>findD N (q:Int)) 1000→PK w1 (w3.alloc (.cells (drC key ep p root bm (.slice none 0 0)) 131)) w3.heap.size bm f 0 (.slice none 0 0) (fun _=>False) []:=fun w1 w3 bm f hb hm=>by
  rw [hPK]
  show DrI _ _ _ _ _ _ _ _ _ _ _ _ _ _ _
  rw [rootC_lt (by omega)]
  have hM:∀ q,QC p C q→refsC key ep p root N C 0 q=findD N (q:Int):=fun q hq=>refsC_zero q (((may_iff p N C).1 G.may).2 q hq.1 hq.2).1
  have hm2:=(hm.below ((Below.refl _ _).alloc (Nat.le_refl _) (.cells (drC key ep p root bm (.slice none 0 0)) 131)))
  exact ⟨hb.alloc hb.size _,hb.size,at_new _ _ _,hm2.ext (fun q hq=>(mem_need p _ q).2 hq) hM,trivial,World.ownsRow_nil _ _ _ _,fun _ h=>h.elim,lk,hr,fun q hq r hrr=>findD_wf hN.w _ r (by rw [←hM q hq];exact hrr)⟩
 have hch:=fun k m (h:AtCh C k m) hk=>atCh_next G h hk
 have hce:=fun m h=>atCh_end (m:=m) G h
 have hhide:=fun (w1 wx:World) bd bm f vp D ws (x k:Nat) (hk:k < C.length) (hx:(C.getD k zch).1=(x:Int)) (hxp:x < p) (hl2:(C.getD k zch).2.length=256) (ht:tchC p C x=true) (hcp:chgP C x=some (C.getD k zch).2) (h:PK w1 wx bd bm f x vp D ws) (hT1:TT w1) (v:Value) (hv:Sl wx v (C.getD k zch).2)=>by
  rw [hPK] at h
  exact phide16_any (i:=x) G h hT1 (by omega) ht (C.getD k zch).2 (by unfold pageC;rw [if_pos hxp];exact hcp) hl2 v hv
 have hhn:=fun (w1 wx:World) bd bm f vp D ws (i:Nat) (hq:QC p C i) (h:PK w1 wx bd bm f i vp D ws) (hT1:TT w1)=>by
  rw [hPK] at h
  exact phideNode_any (i:=i) G h hT1 hq
 have hskip:∀ w1 wx bd bm f vp D ws m x,PK w1 wx bd bm f m vp D ws→m≤x→x < itn p→(∀ i,m≤i→i < x→tchC p C i=false)→PK w1 wx bd bm f x vp D ws:=fun w1 wx bd bm f vp D ws m x h a b c=>by rw [hPK] at h ⊢;exact DrM.skip h a b c
 have hfin:∀ w1 wx bd bm f vp D ws m,PK w1 wx bd bm f m vp D ws→m≤itn p→(∀ i,m≤i→i < itn p→tchC p C i=false)→PK w1 wx bd bm f (itn p) vp D ws:=fun w1 wx bd bm f vp D ws m h a b=>by rw [hPK] at h ⊢;exact DrM.fin G h a b
 have hPI:∀ w1 wx bd bm f vp D ws m,PK w1 wx bd bm f m vp D ws→DrI w1 wx bd bm f key ep p (rootC key ep p root N C m) (QC p C) (refsC key ep p root N C m) vp D ws (putsC key ep p root N C m):=fun w1 wx bd bm f vp D ws m h=>by rw [hPK] at h;exact h
 have hIP:∀ w1 wx bd bm f vp D ws m,DrI w1 wx bd bm f key ep p (rootC key ep p root N C m) (QC p C) (refsC key ep p root N C m) vp D ws (putsC key ep p root N C m)→PK w1 wx bd bm f m vp D ws:=fun w1 wx bd bm f vp D ws m h=>by rw [hPK];exact h
 have hn0:AtCh C 0 0:=atCh_zero G
 have hnn0:AtNd p C 0 p:=atNd_zero
 have hnn:=fun j m (h:AtNd p C j m) hj=>atNd_next h hj
 have hne:=fun m (h:AtNd p C (needT p (pgsC C)).length m) hm=>atNd_end h hm
 have hmap:=nds_map (key:=key) (ep:=ep) G
 have hrl:=fun m q=>refsC_length (key:=key) (ep:=ep) (p:=p) (root:=root) (N:=N) (C:=C) m q
 obtain ⟨PU,hPU⟩:∃ f,f=putsC key ep p root N C:=⟨_,rfl⟩
 obtain ⟨RR,hRR⟩:∃ f,f=rootC key ep p root N C:=⟨_,rfl⟩
 obtain ⟨RF,hRF⟩:∃ f,f=refsC key ep p root N C:=⟨_,rfl⟩
 have hall:(needT p (pgsC C)).take (needT p (pgsC C)).length=needT p (pgsC C):=List.take_length
 have hKg:∀ j,j < (needT p (pgsC C)).length→(needI p (pgsC C)).getD j 0=(((needT p (pgsC C)).getD j 0:Nat):Int):=fun j hj=>by
  obtain ⟨i,a,b,_⟩:=hng j (by rw [hnl];exact hj)
  rw [a,b]
 have hQw:∀ q∈needT p (pgsC C),QC p C q:=fun q hq=>(mem_need p _ q).1 hq
 have hQm:∀ q,QC p C q→q < itn p:=fun q hq=>hq.1
 obtain ⟨KI,hKI⟩:∃ K,K=needI p (pgsC C):=⟨_,rfl⟩
 obtain ⟨KT,hKT⟩:∃ K,K=needT p (pgsC C):=⟨_,rfl⟩
 obtain ⟨m,hm⟩:∃ m,m=itn p:=⟨_,rfl⟩
 rw [←hPU,←hRR,←hRF] at hPI hIP hhide hhn
 rw [←hPU,←hRR]
 rw [←hRF] at hmap hrl
 rw [←hKI] at nd ro hnl hKg
 rw [←hKT] at ro hnl hnlen hfirst0 hnn hne hmap hall hKg hQw
 rw [←hm] at hskip hfin hne hmap hit hbig hQm ⊢
 rw [hmap]
 obtain ⟨kn,hkn⟩:∃ k,k=KT.length:=⟨_,rfl⟩
 rw [←hkn] at hnl hnlen hnn hne hall hKg
 have kc:(u8s key).toArray.size=32:=by simp [u8s_length,lk]
 obtain ⟨DC,hDC⟩:∃ f:Nat→Array Value,f=fun bm=>drC key ep p root bm (.slice none 0 0):=⟨_,rfl⟩
 have bld:∀ bm wx,(Instr.build 131 #[(0,.pointer none),(1,.agg (u8s key).toArray),(2,.int .u32 (V ep)),(3,.agg (psC p)),(4,.agg (refC root)),(5,.map (some bm))]).run Tryz.prog wx=.ok (.agg (DC bm)) wx:=fun bm wx=>by rw [hDC];exact bld0 bm wx
 clear bld0
 have hfirst:∀ w1 w3 bm f,Below w1.heap.size w1 w3→RMap w3 w1.heap.size bm f (fun q=>q∈KT) (fun q=>findD N (q:Int)) 1000→PK w1 (w3.alloc (.cells (DC bm) 131)) w3.heap.size bm f 0 (.slice none 0 0) (fun _=>False) []:=fun w1 w3 bm f a b=>by rw [hDC];exact hfirst0 w1 w3 bm f a b
 clear hfirst0
 obtain ⟨KC,hKC⟩:∃ K,K=(u8s key).toArray:=⟨_,rfl⟩
 have cs:(psC p).size=1:=rfl
 obtain ⟨CS,hCS⟩:∃ C,C=psC p:=⟨_,rfl⟩
 have rs:=refC_size hr;have r0:=ref0 root
 obtain ⟨RC,hRC⟩:∃ R,R=refC root:=⟨_,rfl⟩
 obtain ⟨pl,hpl⟩:∃ k,k=root.pl:=⟨_,rfl⟩
 have hxr:=zeroRfP
 obtain ⟨Z,hZ⟩:∃ Z,Z=refC zref:=⟨_,rfl⟩
 have zs:Z.size=34:=by rw [hZ];exact refC_size zref_wf
 rw [←hpl] at ip hpd r0
 rw [←hCS] at my nd bld cs ⊢
 rw [←hRC] at rs r0 bld ⊢
 rw [←hKC] at kc bld ⊢
 rw [←hZ] at hxr
 have pb:=plB_new w KC CS RC Z
 obtain ⟨an,cn,rfl⟩:=hn.hd
 obtain ⟨ac,cc,rfl⟩:=hc.hd
 obtain ⟨nN,hnN⟩:∃ n,n=N.length:=⟨_,rfl⟩
 rw [←hnN] at hn my ro ⊢
 obtain ⟨n,hnn2⟩:∃ n,n=C.length:=⟨_,rfl⟩
 rw [←hnn2] at hc hl my nd hch hce hhide ⊢
 unfold PlEnd
 have IP:=zh ip;have MY:=zh my;have PD:=zh hpd;have CSZ:=zh cs;have R0:=zh r0;have RS:=zh rs;have KS:=zh kc;have ZS:=zh zs;have PB:=zh pb;have NDD:=zh nd;have RO:=zh ro;have BLD:=zh bld;have FST:=zh hfirst;have CH:=zh hch;have CHE:=zh hce;have HH:=zh hhide;have HN:=zh hhn;have SKIP:=zh hskip;have FIN:=zh hfin;have PI:=zh hPI;have IPK:=zh hIP
 have N0:=zh hn0;have NN0:=zh hnn0;have NNX:=zh hnn;have NNE:=zh hne;have RFL:=zh hrl;have ALL:=zh hall;have KG:=zh hKg;have QW:=zh hQw;have QM:=zh hQm;have NL:=zh hnl;have NLE:=zh hnlen;have HCV:=zh hc;have HNC:=zh hnn2;have TTW:=zh hT;have BIG:=zh hbig;have IT:=zh hit;have KN:=zh hkn
 clear hQm ip my hpd cs r0 rs kc zs pb nd ro bld hfirst hch hce hhide hhn hskip hfin hPI hIP hn0 hnn0 hnn hne hmap hrl hall hKg hQw hnl hnlen hc hnn2 hT hbig hit hPK hPU hRR hRF hKI hKT hm hkn hDC hKC hCS hRC hpl hZ hnN hng G lk hr hn hN
 go_enter Tryz.func11,Tryz.ntmps11
 go_upto_region 1 with fail
 rw [show (((w.alloc (.cells KC 22)).alloc (.cells CS 26)).alloc (.cells RC 38)).alloc (.cells Z 38)=plW w KC CS RC Z from rfl]
 generalize plW w KC CS RC Z=w4 at *
 have c0:w4.cell? ⟨w.heap.size+1+1,0,none⟩=some (.int .i64 pl):=(PB.out.r.cell 0).trans R0.out
 go_wp2_with fail
 refine (IP.out _).mono ?_
 rintro e w5 ⟨rfl,rfl⟩
 rw [PD.out]
 clear c0 hxr
 go_wp2_with (refine wpList_load_is_wanted zr 26 _ zr (w.heap.size+1) 0 1 zr _ Tryz.underlying26 zr infoPS CS _ PB.out.s (by rw [CSZ.out];decide) CS (by simp [CSZ.out]) ?_)
 refine (MY.out _ PB.out.b).mono ?_
 rintro e w6 ⟨rfl,hb6⟩
 have P6:=zh (PB.out.below hb6)
 clear hb6 PB
 go_wp2_with (refine wpList_load_all zr 26 _ zr (w.heap.size+1) zr _ Tryz.underlying26 zr CS _ P6.out.s (by rw [CSZ.out];exact infoPS) ?_)
 refine (NDD.out _ P6.out.b).mono ?_
 rintro e w1 ⟨v5,rfl,ho5,hb5⟩
 have P1:=zh (P6.out.below hb5);have S1:=zh (ownV_sli ho5)
 obtain ⟨a5,c5,e5⟩:=S1.out.hd
 subst e5
 rw [NL.out] at S1 ⊢
 have T1:Hid (TT w1):=zh (TTW.out.below P1.out.b)
 have LZ:Hid (w.heap.size+1+1+1 < w1.heap.size):=zh P1.out.z.lt
 clear ho5 hb5 P6
 go_upto_region 4 with fail
 refine wp_region_plan_in (fun x'=>Below w1.heap.size w1 x') (.take 0 (.take 1 (.take 2 (.take 3 (.take 4 (.take 5 (.take 6 (.sole 7 (.take 8 (.sole 9 (.take 10 .done))))))))))) (by kernel_rfl) (by kernel_rfl) (by kernel_rfl) (Below.refl _ _).drew ?_
 (first | refine Mem.pm1 ?_ | refine Mem.pm2 ?_ | refine Mem.pt ?_ | refine Mem.pf ?_)
 (simp only [Mem.zp,Mem.pb,Mem.pc])
 refine plan_row 22 _ w.heap.size _ KC 22 zr zr zr ze (fun w' hw'=>P1.out.k.below hw' P1.out.k.lt) Tryz.underlying22 zr (by rw [KS.out];kernel_rfl) ?_
 (simp only [Mem.zp,Mem.pb,Mem.pc])
 (first | refine Mem.pm1 ?_ | refine Mem.pm2 ?_ | refine Mem.pt ?_ | refine Mem.pf ?_)
 (simp only [Mem.zp,Mem.pb,Mem.pc])
 refine plan_row 26 _ (w.heap.size+1) _ CS 26 zr zr zr ze (fun w' hw'=>P1.out.s.below hw' P1.out.s.lt) Tryz.underlying26 zr (by rw [CSZ.out];exact infoPS) ?_
 (simp only [Mem.zp,Mem.pb,Mem.pc])
 refine plan_row 38 _ (w.heap.size+1+1) _ RC 38 zr zr zr ze (fun w' hw'=>P1.out.r.below hw' P1.out.r.lt) Tryz.underlying38 zr (by rw [RS.out];exact infoRfP) ?_
 (simp only [Mem.zp,Mem.pb,Mem.pc])
 iterate 2 ((first | refine Mem.pm1 ?_ | refine Mem.pm2 ?_ | refine Mem.pt ?_ | refine Mem.pf ?_);(simp only [Mem.zp,Mem.pb,Mem.pc]))
 refine plan_call 51 _ _ _ (by kernel_rfl) zr zr zr (by first | exact Mem.ev_none _ | (simp only [List.map_toArray,List.map_cons,List.map_nil,Mem.ev_tmp,List.getD_cons_succ,List.getD_cons_zero] <;> rfl)) ?_
 refine (RO.out _ _ (P1.out.b.drew) (S1.out.below (Below.refl _ _).drew)).mono ?_
 rintro e w3 ⟨bm,f,rfl,hrm,hb3⟩
 have D3:Hid (Below w1.heap.size w1 w3):=zh (Below.trans (Below.refl _ _).drew hb3)
 have M3:Hid (RMap w3 w1.heap.size bm f (fun q=>q∈KT) (fun q=>findD N (q:Int)) 1000):=zh hrm
 clear hrm hb3
 refine ⟨_,rfl,D3.out,?_⟩
 (simp only [Mem.zp,Mem.pb,Mem.pc])
 refine plan_build 131 _ #[(0,.pointer none),(1,.agg KC),(2,.int .u32 (V ep)),(3,.agg CS),(4,.agg RC),(5,.map (some bm))] (.agg (DC bm)) zr zr zr (by first | rfl | simp [Act.eval]) (fun wx=>BLD.out _ wx) ?_
 (simp only [Mem.zp,Mem.pb,Mem.pc])
 refine plan_box 131 _ (DC bm) zr zr zr ze (D3.out.alloc D3.out.size _) ?_
 have D4:Hid (Below w1.heap.size w1 (w3.alloc (.cells (DC bm) 131))):=zh (D3.out.alloc D3.out.size _)
 have K4:=zh (FST.out w1 w3 bm f D3.out M3.out)
 (simp only [Mem.zp,Mem.pb,Mem.pc])
 (first | refine Mem.pm1 ?_ | refine Mem.pm2 ?_ | refine Mem.pt ?_ | refine Mem.pf ?_)
 (simp only [Mem.zp,Mem.pb,Mem.pc])
 refine plan_nil ?_
 obtain ⟨bd,hbd⟩:∃ bd,bd=w3.heap.size:=⟨_,rfl⟩
 rw [←hbd] at K4 ⊢
 clear hbd D3 M3
 generalize w3.alloc (.cells (DC bm) 131)=w4' at *
 go_upto_region 6 with fail
 go_loopw [54] (fun vi wr=>∃ k:Nat,k≤n∧vi=.int .i64 (k:Int)∧∃ m' vp D ws,AtCh C k m'∧m'≤p∧PK w1 wr bd bm f m' vp D ws) (fun vi _=>n - (intOf vi).toNat)
 case atStart=>exact ⟨0,by omega,rfl,0,_,_,_,N0.out,by omega,K4.out⟩
 case round=>
  obtain ⟨k,hk,rfl,m',vp,D,ws,hat,hmp,hpk⟩:=hrel
  have AT:=zh hat;have KW:=zh hpk;have HMP:=zh hmp
  have BW:Hid (Below w1.heap.size w1 wr):=zh (PI.out _ _ _ _ _ _ _ _ _ hpk).b
  have B0:Hid (Below w.heap.size w wr):=zh (P1.out.b.trans (BW.out.mono P1.out.b.size))
  have VW:=zh (HCV.out.below B0.out)
  clear hat hpk hmp
  by_cases hlt:k < n
  ·have hlt':(k:Int) < (n:Int):=by omega
   obtain ⟨b1,o1,u,e1,hlb,cz0,cu0,hsu⟩:=slch_at (i:=k) VW.out HNC.out hlt
   subst e1
   obtain ⟨x,hx,hxp,hmx,hl2,htc,hcp,hat2,hgap⟩:=CH.out k m' AT.out hlt
   rw [hx] at cz0
   obtain ⟨a3,cap3,rfl⟩:=sl_inv hsu
   rw [hl2] at cu0 hsu
   have cz:wr.cell? ⟨b1,o1+k*2,none⟩=some (.int .i64 (x:Int)):=cz0
   have cu:wr.cell? ⟨b1,o1+k*2+1,none⟩=some (.slice a3 256 cap3):=cu0
   have hb3:Below wr.heap.size wr (wr.alloc (.cells (chRow (x:Int) (.slice a3 256 cap3)) 55)):=(Below.refl _ _).alloc (Nat.le_refl _) _
   have A3:=zh (at_new wr (chRow (x:Int) (.slice a3 256 cap3)) 55)
   have K3:Hid (PK w1 (wr.alloc (.cells (chRow (x:Int) (.slice a3 256 cap3)) 55)) bd bm f x vp D ws):=zh (IPK.out _ _ _ _ _ _ _ _ _ ((PI.out _ _ _ _ _ _ _ _ _ (SKIP.out _ _ _ _ _ _ _ _ _ _ KW.out hmx (by have:=BIG.out.1;omega) hgap)).below hb3))
   have CALL:=zh (HH.out _ _ _ _ _ _ _ _ x k hlt hx hxp hl2 htc hcp K3.out T1.out (.slice a3 256 cap3) (hsu.below hb3))
   have AT2:=zh hat2;have XP:Hid (x+1≤p):=zh hxp
   clear cz0 cu0 hsu hx hl2 htc hcp hat2 hgap hlb hb3 hmx hxp
   obtain ⟨z,hz⟩:∃ z:Int,z=(x:Int):=⟨_,rfl⟩
   rw [←hz] at A3 K3 CALL cz
   clear hz
   go_upto_region 8 with (refine wpList_store_new zr 55 _ _ zr zr (chRow z (.slice a3 256 cap3)) _ _ zr zr (by exact infoCh16) zr (chRow_one _ _ _ _) ?_)
   clear cz cu
   obtain ⟨bx,hbx⟩:∃ bx,bx=wr.heap.size:=⟨_,rfl⟩
   rw [←hbx] at A3 ⊢
   clear hbx
   generalize wr.alloc (.cells (chRow z (.slice a3 256 cap3)) 55)=w3 at *
   have c0:w3.cell? ⟨bx,0,none⟩=some (.int .i64 z):=(A3.out.cell 0).trans rfl
   have c1:w3.cell? ⟨bx,1,none⟩=some (.slice a3 256 cap3):=(A3.out.cell 1).trans rfl
   go_wp2_with fail
   refine CALL.out.mono ?_
   rintro e w5 ⟨rfl,⟨vp',D',ws',hd,_⟩,_⟩
   have K5:=zh (IPK.out _ _ _ _ _ _ _ _ _ hd)
   clear hd c0 c1
   go_wp2_with fail
   go_roundw
   case rel=>exact ⟨k+1,by omega,by go_num,x+1,vp',D',ws',AT2.out,XP.out,K5.out⟩
   case measure=>simp [intOf];omega
  ·have hkn:k=n:=by omega
   subst hkn
   have hge:¬ (k:Int) < (k:Int):=by omega
   have K5:Hid (PK w1 wr bd bm f p vp D ws):=zh (SKIP.out _ _ _ _ _ _ _ _ _ _ KW.out HMP.out BIG.out.1 (CHE.out _ AT.out))
   have S5:=zh (S1.out.below BW.out)
   clear KW AT HMP
   go_upto_region 14 with fail
   have hkn1:kn≤259:=NLE.out
   obtain ⟨vp0,hvp0⟩:∃ v,v=vp:=⟨_,rfl⟩
   obtain ⟨wl,hwl⟩:∃ y,y=wr:=⟨_,rfl⟩
   rw [←hwl] at BW B0 VW K5 S5 ⊢
   clear hwl hvp0 vp0
   go_loopw [23,71] (fun vt vi wr=>∃ j:Nat,j≤kn∧vi=.int .i64 (j:Int)∧∃ m' vp D ws,AtNd p C j m'∧m'≤m∧PK w1 wr bd bm f m' vp D ws∧wr.ownsRow w1.heap.size 118 2 vt j (ndVs f (KT.take j))∧∀ k,D k→vt.ownBlock≠some k) (fun _ vi _=>kn - (intOf vi).toNat)
   case atStart=>exact ⟨0,by omega,rfl,p,_,_,_,NN0.out,by have:=BIG.out.1;omega,K5.out,by rw [List.take_zero];exact World.ownsRow_nil _ _ _ _,fun k _=>by simp [Value.ownBlock]⟩
   case round=>
    obtain ⟨j,hj,rfl,m',vp,D,ws,hat,hmm,hpk,hown,hdis⟩:=hrel
    have AT:=zh hat;have KW:=zh hpk;have MM:=zh hmm;have OW:=zh hown;have DIS:=zh hdis
    have BW:Hid (Below w1.heap.size w1 wr):=zh (PI.out _ _ _ _ _ _ _ _ _ hpk).b
    have SW:=zh (S1.out.below BW.out)
    obtain ⟨at0,ct0,rfl⟩:=rows_hd hown
    clear hat hpk hmm hown hdis
    by_cases hlt:j < kn
    ·have hlt':(j:Int) < (kn:Int):=by omega
     obtain ⟨b1,o1,e1,hlb,cx0⟩:=sli_at (i:=j) SW.out NL.out.symm hlt
     subst e1
     rw [KG.out j hlt] at cx0
     obtain ⟨hq,hmi,hat2,htk,hgap⟩:=NNX.out j m' AT.out hlt
     obtain ⟨i,hi⟩:∃ i,i=KT.getD j 0:=⟨_,rfl⟩
     rw [←hi] at cx0 hq hmi hat2 htk hgap
     have hil:i < m:=QM.out i hq
     have KI1:Hid (PK w1 wr bd bm f i vp D ws):=zh (SKIP.out _ _ _ _ _ _ _ _ _ _ KW.out hmi hil hgap)
     have CALL:=zh (HN.out _ _ _ _ _ _ _ _ i hq KI1.out T1.out)
     have NF:=zh ((PI.out _ _ _ _ _ _ _ _ _ KI1.out).nodeF OW.out)
     have AT2:=zh hat2;have TK2:=zh htk;have QI:=zh hq;have IL:Hid (i+1≤m):=zh hil
     clear hq hmi hat2 htk hgap hi hlb hil
     have hi6:i≤259:=by have:=IL.out;have:=IT.out;omega
     have WFI:=zh (wfI_nat i (by omega))
     clear hi6
     go_wp2_with fail
     refine CALL.out.mono ?_
     rintro e w5 ⟨rfl,⟨vp',D',ws',hd,hD'⟩,hch⟩
     have O5:Hid (w5.ownsRow w1.heap.size 118 2 (.slice at0 j ct0) j (ndVs f (KT.take j))):=zh (ownsRow_keep OW.out fun g hg=>hch.block g (World.ownsRow.lt OW.out g hg).2 (NF.out g hg))
     have DIS5:Hid (∀ k,D' k→(Value.slice at0 j ct0).ownBlock≠some k):=zh (fun k hk=>(hD' k hk).elim (DIS.out k) fun h e=>by have:=(World.ownsRow.lt OW.out k e).2;omega)
     have I5:=zh hd
     obtain ⟨nm,hmm5,_⟩:=hd.mp.m
     obtain ⟨vi,hvi,hoi⟩:=hd.mp.own i QI.out
     obtain ⟨ai,ci,ei⟩:=rows_hd hoi
     rw [RFL.out] at ei
     subst ei
     have FQ:Hid ((f (i:Int)).getD (.slice none 0 0)=.slice ai (many p i) ci):=zh (by rw [hvi];rfl)
     have MP5:=zh hmm5;have FV:=zh hvi
     have cm:w5.cell? ⟨bd,69,none⟩=some (.map (some bm)):=hd.cells.map
     clear hd hD' hch hmm5 hvi hoi cx0
     obtain ⟨l6,hl6⟩:∃ l,l=many p i:=⟨_,rfl⟩
     rw [←hl6] at FQ FV
     clear hl6
     have O6:Hid ((w5.alloc (.cells (ndRow (i:Int) (.slice ai l6 ci)) 118)).ownsRow w1.heap.size 118 2 (.slice at0 j ct0) j (ndVs f (KT.take j))):=zh (World.ownsRow.alloc O5.out _)
     have B6:Hid (w1.heap.size≤(w5.alloc (.cells (ndRow (i:Int) (.slice ai l6 ci)) 118)).heap.size):=zh (by have:=I5.out.b.size;simp;omega)
     have Q6:Hid (Below w5.heap.size w5 (w5.alloc (.cells (ndRow (i:Int) (.slice ai l6 ci)) 118))):=zh ((Below.refl _ _).alloc (Nat.le_refl _) _)
     have BLN:=zh (buildNd i);have BTN:=zh (builtNd i)
     go_upto_region 20 with (first
      | (at_lookup;refine wpList_mapV_look zr 128 _ _ zr 27 MP5.out (i:Int) zr zr uInt16 uRf16 (.slice none 0 0) (zeroSRf _) WFI.out (.slice ai l6 ci) FQ.out ?_;(simp only [Mem.zp,Mem.pb,Mem.pc]))
      | (refine Mem.wpList_build zr 118 _ #[(0,.int .i64 (i:Int)),(1,.slice ai l6 ci)] (.agg (ndRow (i:Int) (.slice ai l6 ci))) zr (by first | rfl | simp [Act.eval]) (fun wx=>BLN.out _ _ _ wx) ?_)
      | ((refine Go.Great.wpList_buildSliceTo zr 41 118 1 _ zr _ zr _ zr Tryz.underlying41 (ndRow (i:Int) (.slice ai l6 ci)) (by first | (simp [Act.eval,Act.put];exact BTN.out _ _ _) | (go_simp;exact BTN.out _ _ _) | (simp only [List.map_toArray,List.map_cons,List.map_nil];exact BTN.out _ _ _)) ?_))
      | (at_builtin;go_loud (refine wpList_append_app zr _ _ 41 zr (.slice (some ⟨w5.heap.size,0,none⟩) 1 1) j 1 2 [.int .i64 (i:Int),.slice ai l6 ci] (.agg #[.int .i64 0,.slice none 0 0]) 32 elemNd zr (by decide) zr O6.out zr (by exact rdR_new (e:=118) (C:=ndRow (i:Int) (.slice ai l6 ci))) (by simp [Value.oneCell']) (by omega) (by omega) B6.out ?_);intro v8 w8 ho8 ha8 hb8;have O8:Hid (w8.ownsRow w1.heap.size 118 2 v8 (j+1) (ndVs f (KT.take (j+1)))):=zh (by rw [TK2.out,ndVs_snoc f _ _ FV.out];exact ho8);have K8:=zh (IPK.out _ _ _ _ _ _ _ _ _ (I5.out.app O5.out DIS5.out Q6.out ha8 hb8));have DIS8:Hid (∀ k,D' k→v8.ownBlock≠some k):=zh (fun k hk=>by (rcases ha8.b with e | ⟨g,e,hge⟩);(· rw [e];exact DIS5.out k hk);(· rw [e];intro c;injection c with c;have:=(I5.out.d k hk).2.1;have:=Q6.out.size;omega));clear ho8 ha8 hb8))
     clear cm
     go_wp2_with fail
     go_roundw
     case rel=>exact ⟨j+1,by omega,by go_num,i+1,vp',D',ws',AT2.out,IL.out,K8.out,O8.out,DIS8.out⟩
     case measure=>simp [intOf];omega
    ·have hjn:j=kn:=by omega
     subst hjn
     have hge:¬ (j:Int) < (j:Int):=by omega
     have KE:Hid (PK w1 wr bd bm f m vp D ws):=zh (FIN.out _ _ _ _ _ _ _ _ _ KW.out MM.out (NNE.out _ AT.out MM.out))
     have IE:=zh (PI.out _ _ _ _ _ _ _ _ _ KE.out)
     have PZ:=zh (P1.out.below BW.out)
     have OE:Hid (wr.ownsRow w1.heap.size 118 2 (.slice at0 j ct0) j (ndVs f KT)):=zh (by have h:=OW.out;rw [ALL.out] at h;exact h)
     have hrr:=IE.out.rw
     have hre:refL (RR m)=(refC (RR m)).toList:=rfl
     have hrg:=IE.out.cells.root
     have res:=refC_size hrr;have reo:=refC_one (RR m)
     have CPZ:=zh IE.out.cells.puts
     have NZ:Hid (bd≠w.heap.size+1+1+1):=zh (by have:=IE.out.gd;have:=LZ.out;omega)
     rw [hre] at hrg
     obtain ⟨RE,hRE⟩:∃ R,R=refC (RR m):=⟨_,rfl⟩
     rw [←hRE] at hrg res reo
     have HRE:=zh hRE
     have RRG:=zh hrg;have RES:=zh res;have REO:=zh reo
     clear hrr hre hrg res reo hRE KW AT DIS OW
     go_upto_region 21 with fail
     refine wp_region_plan_in (fun x'=>x'.heap[bd]?=wr.heap[bd]?) (.take 0 (.take 1 (.take 2 (.take 3 (.take 4 (.take 5 (.take 6 (.take 7 (.take 8 (.take 9 (.take 10 (.sole 11 (.take 12 .done))))))))))))) (by kernel_rfl) (by kernel_rfl) (by kernel_rfl) rfl ?_
     (first | refine Mem.pm1 ?_ | refine Mem.pm2 ?_ | refine Mem.pt ?_ | refine Mem.pf ?_)
     (simp only [Mem.zp,Mem.pb,Mem.pc])
     refine plan_nilcheck _ ⟨bd,0,none⟩ zr zr zr ze ?_
     (simp only [Mem.zp,Mem.pb,Mem.pc])
     refine plan_field 131 _ 6 bd 0 ⟨bd,70,none⟩ zr zr zr ze (fun wx=>by go_simp) ?_
     (simp only [Mem.zp,Mem.pb,Mem.pc])
     refine plan_cell 40 _ _ vp _ zr zr zr ze (fun w' hw'=>(World.cell?_of_block (a:=⟨bd,70,none⟩) hw').trans CPZ.out) Tryz.underlying40 zr ?_
     (simp only [Mem.zp,Mem.pb,Mem.pc])
     iterate 2 ((first | refine Mem.pm1 ?_ | refine Mem.pm2 ?_ | refine Mem.pt ?_ | refine Mem.pf ?_);(simp only [Mem.zp,Mem.pb,Mem.pc]))
     refine plan_nilcheck _ ⟨bd,0,none⟩ zr zr zr ze ?_
     (simp only [Mem.zp,Mem.pb,Mem.pc])
     refine plan_field 131 _ 4 bd 0 ⟨bd,35,none⟩ zr zr zr ze (fun wx=>by go_simp) ?_
     (simp only [Mem.zp,Mem.pb,Mem.pc])
     refine plan_load_range 38 _ bd (35) _ RE zr zr zr ze (fun w' hw'=>range_block RRG.out hw') Tryz.underlying38 zr (by rw [RES.out];exact infoRfP) ?_
     (simp only [Mem.zp,Mem.pb,Mem.pc])
     iterate 2 ((first | refine Mem.pm1 ?_ | refine Mem.pm2 ?_ | refine Mem.pt ?_ | refine Mem.pf ?_);(simp only [Mem.zp,Mem.pb,Mem.pc]))
     refine plan_store 38 _ _ (w.heap.size+1+1+1) RE Z 38 zr zr zr zr ze ze (by rw [RES.out];exact infoRfP) PZ.out.z (by rw [RES.out,ZS.out]) REO.out (by rw [setRow_other _ _ _ _ NZ.out];rfl) ?_
     (first | refine Mem.pm1 ?_ | refine Mem.pm2 ?_ | refine Mem.pt ?_ | refine Mem.pf ?_)
     (simp only [Mem.zp,Mem.pb,Mem.pc])
     refine plan_nil ?_
     go_wp2_with fail
     try simp only [Exit.inBlock,Exit.then]
     refine ret_vvrv zr (w.heap.size+1+1+1) 38 RE _ _ _ _ zr zr zr zr (PZ.out.z.row RE) Tryz.underlying38 zr (by rw [RES.out];exact infoRfP) ?_
     have ko:∀ k,w1.heap.size≤k→(wr.drew.setRow (w.heap.size+1+1+1) RE).heap[k]?=wr.heap[k]?:=fun k hk=>(setRow_other _ _ k _ (by have:=LZ.out;omega)).trans rfl
     have hsz:(wr.drew.setRow (w.heap.size+1+1+1) RE).heap.size=wr.heap.size:=by simp
     have hmp:RMap (wr.drew.setRow (w.heap.size+1+1+1) RE) w1.heap.size bm f (QC p C) (RF m) 1000:=IE.out.mp.keep (ko bm IE.out.mp.g) fun q v k hq hv hk=>ko k (IE.out.mp.ltq hq hv hk).1
     have hno:(wr.drew.setRow (w.heap.size+1+1+1) RE).ownsRow w1.heap.size 118 2 (.slice at0 j ct0) KT.length (ndVs f KT):=by
      rw [←KN.out]
      exact ownsRow_keep OE.out fun g hg=>ko g (World.ownsRow.lt OE.out g hg).1
     have hwp:=IE.out.out (w':=wr.drew.setRow (w.heap.size+1+1+1) RE) (by omega) (fun k hk _=>ko k hk)
     refine ⟨vp,.slice at0 j ct0,by rw [←HRE.out];rfl,hwp.mono fun k hk _=>by have:=LZ.out;omega,fun w2 h2 k2=>nodes_out (ownsRow_keep hno fun g hg=>k2 g (by have:=(World.ownsRow.lt hno g hg).1;have:=LZ.out;omega) (World.ownsRow.lt hno g hg).2) fun q hq=>?_,below_row (P1.out.b.trans (BW.out.mono P1.out.b.size)).drew (by omega) RE⟩
     obtain ⟨u,hu,ho⟩:=hmp.own q (QW.out q hq)
     exact ⟨u,hu,own_slrf (ownsRow_keep ho fun g hg=>k2 g (by have:=(World.ownsRow.lt ho g hg).1;have:=LZ.out;omega) (World.ownsRow.lt ho g hg).2) (IE.out.mw q (QW.out q hq))⟩
theorem pplan16_any (key:Lb8) (ep:BitVec 32) (p:Nat) (root:RefV) (N:List NdV) (C:List ChV) (vn vc:Value) (w:World) (hT:TT w) (lk:key.length=32) (hr:root.Wf) (hn:SlNd w vn N) (hc:SlCh w vc C) (hN:NdWf N) (hl:C.length≤1000) (h0:1≤p) (h1:p≤216) :
 Calls Tryz.prog 11 #[.pointer none,.agg (u8s key).toArray,.int .u32 (V ep),.agg (psC p),.agg (refC root),vn,vc] w (PlEnd w (planT key ep p root N C)):=by
 by_cases h:mayT p N C=true∧plOk root=true
 ·have e:planT key ep p root N C=(putsC key ep p root N C (itn p),ndsC key ep p root N C (itn p),rootC key ep p root N C (itn p),0):=if_pos h
  rw [e]
  exact pplan_good key ep p root N C vn vc w hT lk hn hc hN hl ⟨h0,h1,h.1,h.2,hN.w,hr⟩
 ·have e:planT key ep p root N C=([],[],zref,1):=if_neg h
  rw [e]
  exact pplan_bad key ep p root N C vn vc w lk hr hn hc hN h1 hl h
end Sha
end Go.Proofs.YtlhnegbjoncieaaGreatDoor
namespace Go.Proofs.YtlhnegbjoncieaaGreatDoor
namespace Sha
open Go.RowKit Mem
set_option maxRecDepth 100000
theorem ch_take16 {β:Type} (C:List β) (d:β) (j:Nat) (hj:j < C.length):C.take (j+1)=C.take j++[C.getD j d]:=by
 rw [List.take_add_one,List.getElem?_eq_getElem hj,List.getD_eq_getElem?_getD,List.getElem?_eq_getElem hj];rfl
abbrev TR:Foot→World→Value→List RefV→Prop:=fun D w u L=>SlR D w 34 u L.length (refCs L)
theorem buildNd0 (z:Int) (wx:World):(Instr.build 118 #[(0,.int .i64 z)]).run Tryz.prog wx=.ok (.agg (ndRow z (.slice none 0 0))) wx:=by
 unfold ndRow
 kernel_rfl
theorem zeroNd (wx:World):(zeroValue 118).run Tryz.prog wx=.ok (.agg (ndRow 0 (.slice none 0 0))) wx:=by
 unfold ndRow
 kernel_rfl
theorem builtNdz (z:Int) (a2:Option Addr) (l c:Nat):Tryz.prog.builtSlice 118 1 [(0,.agg (ndRow z (.slice a2 l c)))]=some (ndRow z (.slice a2 l c)):=by
 unfold ndRow
 kernel_rfl
theorem ownR_nd {w:World} {B B' n m:Nat} {v v':Value} {xs ys:List Value} (h:w.ownsRow B 38 34 v n xs) (k:w.ownsRow B' 118 2 v' m ys):∀ g,v.ownBlock=some g→v'.ownBlock≠some g:=ownsRow_ne h k (by decide)
structure ThI (w0 w:World) (bx:Nat) (z:Int) (vr vo:Value) (D:Foot) (ws:List (Int × Value)) (N:List NdV) (L:List RefV) (sz:Nat):Prop where
 b:Below w0.heap.size w0 w
 row:At w bx (ndRow z vr) 118
 o:OwnRf w sz 38 vr L
 l:OwnL TR w w0.heap.size 118 vo D ws N
 d:∀ k,D k→k < sz
 n:vo.ownBlock≠some bx
 bs:w0.heap.size≤bx
 dx:¬ D bx
 s:w0.heap.size≤sz∧sz≤w.heap.size
section
variable {w0 w w2 w3 w5 w6:World} {bx sz:Nat} {z:Int} {vr vr' vo:Value} {D:Foot} {ws:List (Int × Value)} {N:List NdV} {L:List RefV} {r:RefV}
theorem ThI.below (h:ThI w0 w bx z vr vo D ws N L sz) (hb:Below w.heap.size w w2):ThI w0 w2 bx z vr vo D ws N L sz:=
 ⟨h.b.trans (hb.mono h.b.size),h.row.below hb h.row.lt,ownsRow_below h.o hb,h.l.below elseR hb,h.d,h.n,h.bs,h.dx,h.s.1,Nat.le_trans h.s.2 hb.size⟩
theorem ThI.add (h:ThI w0 w bx z vr vo D ws N L sz) (hb3:Below w.heap.size w w3) (ha:App w3 w5 vr vr') (hb5:Below sz w3 w5) (ho:w5.ownsRow sz 38 34 vr' (L.length+1) (refCs L++refL r)) (hA:At w6 bx (ndRow z vr') 118) (hk:∀ k,k≠bx→w6.heap[k]?=w5.heap[k]?) (hB:∀ B a,Below B a w5→B≤bx→Below B a w6) :
 ThI w0 w6 bx z vr' vo D ws N (L++[r]) sz:=by
 have z3:=hb3.size;have z5:=ha.size;have zs:=h.s
 have z6:w5.heap.size≤w6.heap.size:=(hB 0 w5 (Below.refl _ _) (Nat.zero_le _)).size
 have hbx:=h.row.lt
 have nrx:vr.ownBlock≠some bx:=own_ne_at h.o h.row (by decide)
 have keep:∀ k,k < w.heap.size→k≠bx→vr.ownBlock≠some k→w6.heap[k]?=w.heap[k]?:=fun k hl h1 h2=>by
  rw [hk k h1,ha.k k (by omega) h2,hb3.block k hl]
 have hr5:At w5 bx (ndRow z vr) 118:=at_appd (h.row.below hb3 hbx) ha nrx
 have nrx5:vr'.ownBlock≠some bx:=own_ne_at ho hr5 (by decide)
 have hlo:=fun k hk=>(World.ownsRow.lt h.l.o k hk).2
 have hlr:=fun k hk=>World.ownsRow.lt h.o k hk
 refine ⟨hB _ _ (((h.b.trans (hb3.mono h.b.size)).trans (hb5.mono zs.1))) h.bs,hA,?_,⟨h.l.e.mono fun _ _ a=>⟨a.1,SlR.keep a.2 (by omega) fun k hd hl=>keep k hl (fun e=>h.dx (by rw [←e];exact hd)) fun e=>?_⟩,ownsRow_keep h.l.o fun g hg=>keep g (hlo g hg) (fun e=>h.n (by rw [←e];exact hg)) fun e=>ownR_nd h.o h.l.o g e hg,fun k hd=>⟨Nat.lt_of_lt_of_le (h.l.d k hd).1 (by omega),(h.l.d k hd).2⟩⟩,h.d,h.n,h.bs,h.dx,zs.1,by omega⟩
 ·show w6.ownsRow sz 38 34 vr' (L++[r]).length (refCs (L++[r]))
  rw [refCs_snoc,List.length_append]
  exact ownsRow_keep ho fun g hg=>hk g (fun e=>nrx5 (by rw [←e];exact hg))
 ·have:=(hlr k e).1
  have:=h.d k hd
  omega
end
theorem own_slR {w:World} {B:Nat} {e:TypeId} {z n:Nat} {v:Value} {xs:List Value} (h:w.ownsRow B e z v n xs):SlR (fun k=>v.ownBlock=some k) w z v n xs:=by
 obtain ⟨hl,a,cap,e,hc,hr⟩:=ownsRow_slR h
 refine ⟨hl,a,cap,e,hc,fun hne=>?_⟩
 obtain ⟨bb,oo,ea,_,hlt,hcell⟩:=hr hne
 refine ⟨bb,oo,ea,?_,hlt,hcell⟩
 rcases h.2 with ⟨e2,h0⟩ | ⟨g,cap',cur,e2,_⟩
 ·exact absurd h0 hne
 ·rw [e] at e2
  injection e2 with e3 _ _
  rw [e,e3]
  rw [ea] at e3
  injection e3 with e3
  injection e3 with e3 _ _
  rw [e3];rfl
theorem infoRfs16:(Tryz.prog.info? 27).map (·.size)=some 1:=by kernel_rfl
end Sha
end Go.Proofs.YtlhnegbjoncieaaGreatDoor
namespace Go.Proofs.YtlhnegbjoncieaaGreatDoor
namespace Sha
open Go.RowKit Mem
set_option maxRecDepth 100000
theorem kid_take {p:Nat} {R:List RefV} {i t:Nat} (h:fst p i+many p i≤R.length) (ht:t < many p i):(kidR p R i).take (t+1)=(kidR p R i).take t++[R.getD (fst p i+t) zref]:=by
 rw [ch_take16 (kidR p R i) zref t (by rw [kidR_length _ _ _ h];exact ht),kidR_get _ _ _ _ ht]
theorem nds_next (p:Nat) (R:List RefV) {i:Nat} (h:p≤i):ndsI p R (i+1)=ndsI p R i++[((i:Int),kidR p R i)]:=by
 unfold ndsI
 rw [show i+1 - p=(i - p)+1 by omega,List.range_succ,List.map_append,List.map_singleton,show p+(i - p)=i by omega]
theorem ndsI_length (p:Nat) (R:List RefV) (n:Nat):(ndsI p R n).length=n - p:=by simp [ndsI]
theorem nodes16_any (p:Nat) (R:List RefV) (v:Value) (w:World) (hv:SlRf w v R) (hl:R.length=itn p) (hw:∀ r∈R,r.Wf) (h0:1≤p) (h1:p≤216):Calls Tryz.prog 12 #[.agg (psC p),v] w fun e w'=>∃ v',e=.returned v'∧SlNd w' v' (ndsI p R (itn p))∧Below w.heap.size w w':=by
 have hbig:=itn_big p h0 h1
 have hit:=itn_le259 p h1
 have itm:=fun wx=>pitems_any p wx h1
 have pgs:=fun wx=>ppages_any p wx
 have kds:=fun (i:Nat) wx=>pkids_own p (i:Int) wx h1
 have kn:∀ n,p≤n→n < itn p→(KZ p (n:Int)).length=many p n∧1≤many p n∧many p n≤6∧fst p n+many p n≤n∧∀ t,t < many p n→(KZ p (n:Int)).getD t 0=((fst p n+t:Nat):Int):=fun n a b=>by
  have hk:=node_kids p n h0 h1 a b
  refine ⟨KZ_node p n a b,hk.1,many_le p n,hk.2,fun t ht=>?_⟩
  unfold KZ
  rw [if_pos ⟨by omega,by omega⟩,Int.toNat_natCast]
  exact kz_get _ _ _ _ ht
 have htk:∀ i t,p≤i→i < itn p→t < many p i→(kidR p R i).take (t+1)=(kidR p R i).take t++[R.getD (fst p i+t) zref]:=fun i t a b c=>kid_take (by have:=(node_kids p i h0 h1 a b).2;omega) c
 have hkl:∀ i,p≤i→i < itn p→(kidR p R i).length=many p i:=fun i a b=>kidR_length _ _ _ (by have:=(node_kids p i h0 h1 a b).2;omega)
 have hnx:∀ i,p≤i→ndsI p R (i+1)=ndsI p R i++[((i:Int),kidR p R i)]:=fun i a=>nds_next p R a
 have hnl:=ndsI_length p R
 have hnz:ndsI p R p=[]:=by unfold ndsI;rw [Nat.sub_self];rfl
 have hnw:∀ n,∀ x∈ndsI p R n,∀ r∈x.2,r.Wf:=fun n=>ndsI_wf hw
 have cs:(psC p).size=1:=rfl
 obtain ⟨CS,hCS⟩:∃ C,C=psC p:=⟨_,rfl⟩
 obtain ⟨NS,hNS⟩:∃ f,f=ndsI p R:=⟨_,rfl⟩
 obtain ⟨KR,hKR⟩:∃ f,f=kidR p R:=⟨_,rfl⟩
 obtain ⟨m,hm⟩:∃ m,m=itn p:=⟨_,rfl⟩
 rw [←hCS] at itm pgs kds cs ⊢
 rw [←hNS] at hnx hnl hnz hnw ⊢
 rw [←hKR] at htk hkl hnx
 rw [←hm] at itm kn htk hkl hl hbig hit ⊢
 obtain ⟨av,cv,rfl⟩:=hv.hdn hl
 have hb:Below w.heap.size w (w.alloc (.cells CS 26)):=(Below.refl _ _).alloc (Nat.le_refl _) _
 have hA:=at_new w CS 26
 have IT:=zh itm;have PG:=zh pgs;have KD:=zh kds;have KN:=zh kn;have TK:=zh htk;have KL:=zh hkl;have NX:=zh hnx;have NLN:=zh hnl;have NZ:=zh hnz;have NW:=zh hnw;have CSZ:=zh cs;have HB:=zh hb;have HA:=zh hA;have HV:=zh (hv.below hb);have HL:=zh hl;have HW:=zh hw
 have hpm:=hbig.1
 clear itm pgs kds kn htk hkl hnx hnl hnz hnw cs hb hA hv hl hw hCS hNS hKR hm hbig
 go_enter Tryz.func12,Tryz.ntmps12
 go_upto_region 1 with fail
 generalize w.alloc (.cells CS 26)=w1 at *
 go_wp2_with (refine wpList_load_all zr 26 _ zr w.heap.size zr _ Tryz.underlying26 zr CS _ HA.out (by rw [CSZ.out];exact infoPS) ?_)
 refine (PG.out _).mono ?_
 rintro e w2 ⟨rfl,hb2⟩
 have B2:=zh hb2
 clear hb2
 go_wp2_with fail
 go_loopw [5,6] (fun vo vi wr=>∃ i:Nat,p≤i∧i≤m∧vi=.int .i64 (i:Int)∧(∃ D ws,OwnL TR wr w1.heap.size 118 vo D ws (NS i))∧Below w1.heap.size w1 wr) (fun _ vi _=>m - (intOf vi).toNat)
 case atStart=>exact ⟨p,by omega,by omega,rfl,⟨_,_,by rw [NZ.out];exact ownL_nil _ _ _⟩,B2.out⟩
 case round=>
  obtain ⟨i,hpi,him,rfl,⟨D,ws,ho⟩,hbw⟩:=hrel
  have OW:=zh ho;have BW:=zh hbw
  obtain ⟨ao,co,hvo⟩:=rows_hd ho.o
  rw [NLN.out] at hvo
  subst hvo
  have A1:=zh (HA.out.below hbw HA.out.lt)
  clear ho hbw
  go_wp2_with (refine wpList_load_all zr 26 _ zr w.heap.size zr _ Tryz.underlying26 zr CS _ A1.out (by rw [CSZ.out];exact infoPS) ?_)
  refine (IT.out _).mono ?_
  rintro e w3 ⟨rfl,hb3⟩
  have OW3:=zh (OW.out.below elseR hb3);have BW3:Hid (Below w1.heap.size w1 w3):=zh (BW.out.trans (hb3.mono BW.out.size));have A3:=zh (A1.out.below hb3 A1.out.lt)
  clear hb3 OW BW A1
  by_cases hlt:i < m
  ·have hlt':(i:Int) < (m:Int):=by omega
   obtain ⟨k1,k2,k3,k4,k5⟩:=KN.out i hpi hlt
   have htk:=fun t=>TK.out i t hpi hlt
   have hkl:=KL.out i hpi hlt
   have hnx:=NX.out i hpi
   obtain ⟨c,hc⟩:∃ c,c=many p i:=⟨_,rfl⟩
   obtain ⟨f0,hf⟩:∃ f,f=fst p i:=⟨_,rfl⟩
   obtain ⟨x,hx⟩:∃ x,x=KR i:=⟨_,rfl⟩
   have kdi:=fun wx=>KD.out i wx
   obtain ⟨KZi,hKZ⟩:∃ y,y=KZ p (i:Int):=⟨_,rfl⟩
   rw [←hKZ] at kdi k1 k5
   rw [←hc] at k1 k2 k3 k4 k5 htk hkl
   rw [←hf] at k4 k5 htk
   rw [←hx] at htk hkl hnx
   have KDI:=zh kdi;have K1:=zh k1;have K4:=zh k4;have K5:=zh k5;have HTK:=zh htk;have HKL:=zh hkl;have HNX:=zh hnx
   have XWF:Hid (∀ r∈x,r.Wf):=zh (by
    intro r hr
    have:=NW.out (i+1) (((i:Int),x)) (by rw [hnx];exact List.mem_append_right _ (List.mem_singleton.2 rfl)) r hr
    exact this)
   clear kdi k1 k4 k5 htk hkl hnx hc hf hx hKZ
   go_wp2_with (refine wpList_load_all zr 26 _ zr w.heap.size zr _ Tryz.underlying26 zr CS _ A3.out (by rw [CSZ.out];exact infoPS) ?_)
   refine (KDI.out _).mono ?_
   rintro e w4 ⟨vk,rfl,ho4,hb4⟩
   obtain ⟨ak,ck,ek,_⟩:=OwnV.open ho4
   rw [iz_length,K1.out] at ek
   subst ek
   have S4:=zh (ownV_sli ho4)
   have OW4:=zh (OW3.out.below elseR hb4);have BW4:Hid (Below w1.heap.size w1 w4):=zh (BW3.out.trans (hb4.mono BW3.out.size))
   clear ho4 hb4 OW3 BW3 A3
   have hx:=zeroNd
   have BLD:=zh (buildNd0 (i:Int))
   have A5:=zh (at_new w4 (ndRow (i:Int) (.slice none 0 0)) 118)
   have hb5:Below w4.heap.size w4 (w4.alloc (.cells (ndRow (i:Int) (.slice none 0 0)) 118)):=(Below.refl _ _).alloc (Nat.le_refl _) _
   have DL:Hid (∀ k,D k→k < w4.heap.size):=zh fun k hk=>(OW4.out.d k hk).1
   have T5:Hid (ThI w1 (w4.alloc (.cells (ndRow (i:Int) (.slice none 0 0)) 118)) w4.heap.size (i:Int) (.slice none 0 0) (.slice ao (i - p) co) D ws (NS i) (x.take 0) w4.heap.size):=zh (by
    refine ⟨BW4.out.alloc BW4.out.size _,at_new _ _ _,by rw [List.take_zero];exact World.ownsRow_nil _ _ _ _,OW4.out.below elseR hb5,DL.out,fun e=>?_,BW4.out.size,fun h=>?_,BW4.out.size,hb5.size⟩
    ·have:=(World.ownsRow.lt OW4.out.o _ e).2;omega
    ·have:=DL.out _ h;omega)
   have S5:=zh (S4.out.below hb5)
   have V5:Hid (SlRf (w4.alloc (.cells (ndRow (i:Int) (.slice none 0 0)) 118)) (.slice av m cv) R):=zh (HV.out.below (((BW4.out.alloc BW4.out.size _))))
   have W5:Hid (w1.heap.size≤w4.heap.size):=zh BW4.out.size
   clear hb5 OW4 BW4
   go_upto_region 7 with (first
    | (refine Mem.wpList_build zr 118 _ #[(0,.int .i64 (i:Int))] (.agg (ndRow (i:Int) (.slice none 0 0))) zr (by first | rfl | simp [Act.eval]) (fun wx=>BLD.out wx) ?_)
    | (refine wpList_store_new zr 118 _ _ zr zr (ndRow (i:Int) (.slice none 0 0)) _ _ zr zr (by exact infoNd16) zr (ndRow_one _ _ _ _) ?_))
   clear hx
   obtain ⟨bx,hbx⟩:∃ b,b=w4.heap.size:=⟨_,rfl⟩
   have BXS:=zh hbx
   rw [←hbx] at A5 T5 ⊢
   obtain ⟨sz,hsz⟩:∃ s,s=bx:=⟨_,rfl⟩
   have S4':Hid (SlI w4 (.slice ak c ck) KZi):=zh S4.out
   have D45:Hid (Below sz w4 (w4.alloc (.cells (ndRow (i:Int) (.slice none 0 0)) 118))):=zh (by rw [hsz,hbx];exact (Below.refl _ _).alloc (Nat.le_refl _) _)
   have BW4:Hid (∀ wx,Below sz w4 wx→Below w4.heap.size w4 wx):=zh fun wx h=>by rw [←hbx,←hsz];exact h
   clear hbx DL S5 V5
   generalize w4.alloc (.cells (ndRow (i:Int) (.slice none 0 0)) 118)=w5 at *
   replace T5:Hid (ThI w1 w5 bx (i:Int) (.slice none 0 0) (.slice ao (i - p) co) D ws (NS i) (x.take 0) sz):=zh (by rw [hsz];exact T5.out)
   have SZE:=zh hsz
   clear hsz A5
   go_upto_region 8 with fail
   go_loopw [32] (fun vt wx=>∃ t:Nat,t≤c∧vt=.int .i64 (t:Int)∧∃ vr,ThI w1 wx bx (i:Int) vr (.slice ao (i - p) co) D ws (NS i) (x.take t) sz∧Below sz w4 wx) (fun vt _=>c - (intOf vt).toNat)
   case atStart=>exact ⟨0,by omega,rfl,_,T5.out,D45.out⟩
   case round=>
    obtain ⟨t,ht,rfl,vr,hth,hbd⟩:=hrel
    obtain ⟨ar,cr,hvr⟩:=rows_hd hth.o
    have htl:(x.take t).length=t:=by rw [List.length_take,HKL.out];omega
    rw [htl] at hvr
    subst hvr
    have TH:=zh hth;have TLI:=zh htl;have BD:=zh hbd
    have SK:=zh (S4'.out.below (BW4.out _ hbd))
    have VR:=zh (HV.out.below hth.b)
    clear hth htl hbd
    by_cases htc:t < c
    ·have htc':(t:Int) < (c:Int):=by omega
     obtain ⟨bk,ok,ek,_,ck1⟩:=sli_at (i:=t) SK.out K1.out.symm htc
     rw [K5.out t htc] at ck1
     subst ek
     obtain ⟨q,hq⟩:∃ q,q=f0+t:=⟨_,rfl⟩
     have hqm:q < m:=by have:=K4.out;omega
     have hqm':(q:Int) < (m:Int):=by omega
     have hxt:=HTK.out t htc
     rw [←hq] at ck1 hxt
     obtain ⟨b2,o2,e2,hlb2,hrg⟩:=slrf_at (i:=q) VR.out HL.out.symm hqm
     subst e2
     have hwq:=getD_wf HW.out q
     obtain ⟨r,hr⟩:∃ r,r=R.getD q zref:=⟨_,rfl⟩
     rw [←hr] at hrg hxt hwq
     have rb:=built_rp r hwq
     have rdf:=fun wx=>rd_rf (w:=wx) (e:=38) hwq
     have rl:=refL_one r
     obtain ⟨M,hM⟩:∃ M,M=refC r:=⟨_,rfl⟩
     have ms:M.size=34:=by rw [hM];exact refC_size hwq
     have hrgm:wr.rangeAt b2 (o2+q*34) M.toList:=by rw [hM];exact hrg
     rw [←hM] at rb rdf
     have MS:=zh ms;have RB:=zh rb;have RDF:=zh rdf;have RLO:=zh rl;have RGM:=zh hrgm;have HXT:=zh hxt;have LB2:=zh hlb2
     have RQ:Hid (refL (R.getD q zref)=M.toList):=zh (by rw [←hr,hM];rfl)
     clear hrg hwq hr rb rdf rl ms hrgm hM hlb2 hxt hq
     go_upto_region 11 with fail
     clear ck1
     have SZW:Hid (sz≤wr.heap.size):=zh TH.out.s.2
     have SZL:Hid (w1.heap.size≤sz):=zh TH.out.s.1
     have SZB:Hid (sz≤bx):=zh (by rw [SZE.out];exact Nat.le_refl _)
     have GBX:Hid (w1.heap.size≤bx):=zh TH.out.bs
     have D0:Hid (Below w1.heap.size w1 wr.drew):=zh TH.out.b.drew
     have D9:Hid (Below w1.heap.size w1 (wr.drew.alloc (.cells M 38))):=zh (TH.out.b.drew.alloc TH.out.b.drew.size _)
     have C1:Hid (wr.drew.cell? ⟨bx,1,none⟩=some (.slice ar t cr)):=zh ((TH.out.row.cell 1).trans rfl)
     have C2:Hid ((wr.drew.alloc (.cells M 38)).cell? ⟨bx,1,none⟩=some (.slice ar t cr)):=zh (((TH.out.row.drew.alloc (.cells M 38)).cell 1).trans rfl)
     have O9:Hid ((wr.drew.alloc (.cells M 38)).ownsRow sz 38 34 (.slice ar t cr) t (refCs (x.take t))):=zh (by have h:=World.ownsRow.alloc (ownsRow_below TH.out.o (Below.refl _ _).drew) (.cells M 38);rw [TLI.out] at h;exact h)
     have P9:Hid (At (wr.drew.alloc (.cells M 38)) bx (ndRow (i:Int) (.slice ar t cr)) 118):=zh (TH.out.row.drew.alloc _)
     have B9:Hid (sz≤(wr.drew.alloc (.cells M 38)).heap.size):=zh (by have:=TH.out.s.2;have h:wr.drew.heap.size=wr.heap.size:=rfl;simp;omega)
     have Q9:Hid (Below wr.heap.size wr (wr.drew.alloc (.cells M 38))):=zh ((Below.refl _ _).drew.alloc (Nat.le_refl _) _)
     refine wp_region_plan_in (fun x'=>Below w1.heap.size w1 x') (.take 0 (.take 2 (.take 3 (.take 4 (.take 5 (.two 1 6 (.sole 6 (.sole 7 (.take 8 (.sole 9 .done)))) (.sole 1 (.sole 7 (.take 8 (.sole 9 .done)))))))))) (by kernel_rfl) (by kernel_rfl) (by kernel_rfl) D0.out ?_
     refine plan_field 118 _ 1 bx 0 ⟨bx,1,none⟩ zr zr zr ze (fun wx=>by go_simp) ?_
     (simp only [Mem.zp,Mem.pb,Mem.pc])
     iterate 2 ((first | refine Mem.pm1 ?_ | refine Mem.pm2 ?_ | refine Mem.pt ?_ | refine Mem.pf ?_);(simp only [Mem.zp,Mem.pb,Mem.pc]))
     refine plan_index_z 27 38 _ _ b2 o2 m cv 34 q zr zr zr ze ze hqm Tryz.underlying27 infoRfP ?_
     (simp only [Mem.zp,Mem.pb,Mem.pc])
     refine plan_load_range 38 _ b2 (o2+q*34) _ M zr zr zr ze (fun w' hw'=>?_) Tryz.underlying38 zr (by rw [MS.out];exact infoRfP) ?_
     ·obtain ⟨b3,o3,e3,_,hrg3⟩:=slrf_at (i:=q) (HV.out.below hw') HL.out.symm hqm
      injection e3 with e3
      injection e3 with e3 e4 _
      subst e3 e4
      exact fun j v hv=>hrg3 j v (by rw [RQ.out];exact hv)
     (simp only [Mem.zp,Mem.pb,Mem.pc])
     refine plan_two ?_ ?_
     ·refine plan_sole_cell 27 _ _ (.slice ar t cr) _ zr zr zr ze C1.out Tryz.underlying27 zr D0.out ?_
      (simp only [Mem.zp,Mem.pb,Mem.pc])
      refine plan_slice 27 38 1 _ M zr zr zr Tryz.underlying27 (by first | exact RB.out | (simp [Act.eval];exact RB.out) | (simp only [List.map_toArray,List.map_cons,List.map_nil];exact RB.out)) D9.out ?_
      (simp only [Mem.zp,Mem.pb,Mem.pc])
      refine plan_append_app _ _ 27 zr zr zr (.slice (some ⟨wr.drew.heap.size,0,none⟩) 1 1) t 1 34 (refL r) (.agg (refC zref)) 48 elemRP (refC_size zref_wf) (by decide) ze O9.out ze (RDF.out wr.drew) RLO.out (by omega) (by omega) B9.out ?_
      intro v10 w10 ho10 ha10 hb10
      obtain ⟨a10,c10,rfl⟩:=rows_hd ho10
      have O10:=zh ho10;have A10:=zh ha10;have B10:=zh hb10;have P10:=zh (at_appd P9.out ha10 (own_ne_at O9.out P9.out (by decide)))
      have D10:Hid (Below w1.heap.size w1 w10):=zh (D9.out.trans (hb10.mono SZL.out))
      clear ho10 ha10 hb10
      refine ⟨D10.out,?_⟩
      (simp only [Mem.zp,Mem.pb,Mem.pc])
      refine plan_field 118 _ 1 bx 0 ⟨bx,1,none⟩ zr zr zr ze (fun wx=>by go_simp) ?_
      (simp only [Mem.zp,Mem.pb,Mem.pc])
      refine plan_store_one 27 _ _ bx 1 (.slice a10 (t+1) c10) _ 118 zr zr zr zr ze ze zr infoRfs16 P10.out (by show 1 < 2;decide) (D10.out.setCell GBX.out _) ?_
      refine plan_nil ?_
      have T11:Hid (ThI w1 (w10.setCell ⟨bx,1,none⟩ (.slice a10 (t+1) c10)) bx (i:Int) (.slice a10 (t+1) c10) (.slice ao (i - p) co) D ws (NS i) (x.take (t+1)) sz):=zh (by
       rw [HXT.out]
       exact TH.out.add Q9.out A10.out B10.out (by rw [TLI.out];exact O10.out) (P10.out.set 1 (.slice a10 (t+1) c10)) (fun k hk=>heap_setCell_other w10 ⟨bx,1,none⟩ k _ hk) (fun B a hB hle=>hB.setCell hle _))
      have D11:Hid (Below sz w4 (w10.setCell ⟨bx,1,none⟩ (.slice a10 (t+1) c10))):=zh (((BD.out.trans ((Q9.out.mono SZW.out).trans B10.out)).setCell SZB.out _))
      generalize w10.setCell ⟨bx,1,none⟩ (.slice a10 (t+1) c10)=w11 at *
      go_wp2_with fail
      go_roundw
      case rel=>exact ⟨t+1,by omega,by go_num,_,T11.out,D11.out⟩
      case measure=>simp [intOf];omega
     ·refine plan_slice 27 38 1 _ M zr zr zr Tryz.underlying27 (by first | exact RB.out | (simp [Act.eval];exact RB.out) | (simp only [List.map_toArray,List.map_cons,List.map_nil];exact RB.out)) D9.out ?_
      (simp only [Mem.zp,Mem.pb,Mem.pc])
      refine plan_sole_cell 27 _ _ (.slice ar t cr) _ zr zr zr ze C2.out Tryz.underlying27 zr D9.out ?_
      (simp only [Mem.zp,Mem.pb,Mem.pc])
      refine plan_append_app _ _ 27 zr zr zr (.slice (some ⟨wr.drew.heap.size,0,none⟩) 1 1) t 1 34 (refL r) (.agg (refC zref)) 48 elemRP (refC_size zref_wf) (by decide) ze O9.out ze (RDF.out wr.drew) RLO.out (by omega) (by omega) B9.out ?_
      intro v10 w10 ho10 ha10 hb10
      obtain ⟨a10,c10,rfl⟩:=rows_hd ho10
      have O10:=zh ho10;have A10:=zh ha10;have B10:=zh hb10;have P10:=zh (at_appd P9.out ha10 (own_ne_at O9.out P9.out (by decide)))
      have D10:Hid (Below w1.heap.size w1 w10):=zh (D9.out.trans (hb10.mono SZL.out))
      clear ho10 ha10 hb10
      refine ⟨D10.out,?_⟩
      (simp only [Mem.zp,Mem.pb,Mem.pc])
      refine plan_field 118 _ 1 bx 0 ⟨bx,1,none⟩ zr zr zr ze (fun wx=>by go_simp) ?_
      (simp only [Mem.zp,Mem.pb,Mem.pc])
      refine plan_store_one 27 _ _ bx 1 (.slice a10 (t+1) c10) _ 118 zr zr zr zr ze ze zr infoRfs16 P10.out (by show 1 < 2;decide) (D10.out.setCell GBX.out _) ?_
      refine plan_nil ?_
      have T11:Hid (ThI w1 (w10.setCell ⟨bx,1,none⟩ (.slice a10 (t+1) c10)) bx (i:Int) (.slice a10 (t+1) c10) (.slice ao (i - p) co) D ws (NS i) (x.take (t+1)) sz):=zh (by
       rw [HXT.out]
       exact TH.out.add Q9.out A10.out B10.out (by rw [TLI.out];exact O10.out) (P10.out.set 1 (.slice a10 (t+1) c10)) (fun k hk=>heap_setCell_other w10 ⟨bx,1,none⟩ k _ hk) (fun B a hB hle=>hB.setCell hle _))
      have D11:Hid (Below sz w4 (w10.setCell ⟨bx,1,none⟩ (.slice a10 (t+1) c10))):=zh (((BD.out.trans ((Q9.out.mono SZW.out).trans B10.out)).setCell SZB.out _))
      generalize w10.setCell ⟨bx,1,none⟩ (.slice a10 (t+1) c10)=w11 at *
      go_wp2_with fail
      go_roundw
      case rel=>exact ⟨t+1,by omega,by go_num,_,T11.out,D11.out⟩
      case measure=>simp [intOf];omega
    ·have htc2:t=c:=by omega
     subst htc2
     have hge:¬ (t:Int) < (t:Int):=by omega
     have hxa:x.take t=x:=by rw [←HKL.out];exact List.take_length
     rw [hxa] at TH TLI
     clear hxa
     have BT:=zh (builtNdz (i:Int))
     have Q9:Hid (Below wr.heap.size wr (wr.alloc (.cells (ndRow (i:Int) (.slice ar t cr)) 118))):=zh ((Below.refl _ _).alloc (Nat.le_refl _) _)
     have O9:Hid ((wr.alloc (.cells (ndRow (i:Int) (.slice ar t cr)) 118)).ownsRow w1.heap.size 118 2 (.slice ao (i - p) co) (i - p) (chVs ws)):=zh (by have h:=World.ownsRow.alloc TH.out.l.o (.cells (ndRow (i:Int) (.slice ar t cr)) 118);rw [NLN.out] at h;exact h)
     have B9:Hid (w1.heap.size≤(wr.alloc (.cells (ndRow (i:Int) (.slice ar t cr)) 118)).heap.size):=zh (by have:=TH.out.b.size;simp;omega)
     go_upto_region 4 with (first
      | (refine wpList_load_all zr 118 _ zr bx zr _ Tryz.underlying118 zr (ndRow (i:Int) (.slice ar t cr)) _ TH.out.row (by exact infoNd16) ?_)
      | ((refine Go.Great.wpList_buildSliceTo zr 41 118 1 _ zr _ zr _ zr Tryz.underlying41 (ndRow (i:Int) (.slice ar t cr)) (by first | (simp [Act.eval,Act.put];exact BT.out _ _ _) | (go_simp;exact BT.out _ _ _) | (simp only [List.map_toArray,List.map_cons,List.map_nil];exact BT.out _ _ _)) ?_))
      | (at_builtin;go_loud (refine wpList_append_app zr _ _ 41 zr (.slice (some ⟨wr.heap.size,0,none⟩) 1 1) (i - p) 1 2 [.int .i64 (i:Int),.slice ar t cr] (.agg #[.int .i64 0,.slice none 0 0]) 32 elemNd zr (by decide) zr O9.out zr (by exact rdR_new (e:=118) (C:=ndRow (i:Int) (.slice ar t cr))) (by simp [Value.oneCell']) (by omega) (by omega) B9.out ?_);intro v12 w12 ho12 ha12 hb12;have O12:=zh ho12;have A12:=zh ha12;have B12:=zh hb12;clear ho12 ha12 hb12))
     have O13:Hid (∃ D ws,OwnL TR w12 w1.heap.size 118 v12 D ws (NS (i+1))):=zh (by
      rw [HNX.out]
      have ht:=TH.out
      have hsr:TR (fun k=>(Value.slice ar t cr).ownBlock=some k) wr (.slice ar t cr) x:=own_slR ht.o
      refine ⟨_,_,ht.l.add elseR hsr (fun k hk=>⟨(World.ownsRow.lt ht.o k hk).2,ownR_nd ht.o ht.l.o k hk⟩) Q9.out A12.out (by rw [NLN.out];exact O12.out)⟩)
     have B13:Hid (Below w1.heap.size w1 w12):=zh ((TH.out.b.trans (Q9.out.mono TH.out.b.size)).trans B12.out)
     go_wp2_with fail
     go_roundw
     case rel=>exact ⟨i+1,by omega,by omega,by go_num,O13.out,B13.out⟩
     case measure=>simp [intOf];omega
  ·have hin:i=m:=by omega
   subst hin
   have hge:¬ (i:Int) < (i:Int):=by omega
   have SV:=zh (own_nds OW3.out (NW.out i))
   have BE:Hid (Below w.heap.size w w3):=zh (HB.out.trans (BW3.out.mono HB.out.size))
   go_wp2_with fail
   go_ret
   exact ⟨_,rfl,SV.out,BE.out⟩
theorem like16_any (L:List (Lb8)) (va vb:Value) (w:World) (ha:Sls w va L) (hb:Sls w vb L) (hl:L.length≤1000) (hx:∀ x∈L,x.length≤1000):Calls Tryz.prog 16 #[va,vb] w (VEnd (.bool true) w):=by
 obtain ⟨aa,ca,rfl,_,_⟩:=id ha
 obtain ⟨ab,cb,rfl,_,_⟩:=id hb
 obtain ⟨m,hm⟩:∃ m,m=L.length:=⟨_,rfl⟩
 rw [←hm] at ha hb hl ⊢
 have HM:=zh hm;have ML:=zh hx;have PA:=zh ha;have PB:=zh hb
 clear ha hb hm hx
 go_enter Tryz.func16,Tryz.ntmps16
 go_wp2_with fail
 go_loopw [13] (fun vi wx=>∃ i:Nat,i≤m∧vi=.int .i64 (i:Int)∧Below w.heap.size w wx) (fun vi _=>m - (intOf vi).toNat)
 case atStart=>exact ⟨0,by omega,rfl,Below.refl _ _⟩
 case round=>
  obtain ⟨i,hi,rfl,hbx⟩:=hrel
  by_cases hil:i < m
  ·have hil2:(i:Int) < (m:Int):=by omega
   obtain ⟨b1,o1,v1,e1,l1,cn1,hs1⟩:=sls_at PA.out (i:=i) (by rw [←HM.out];exact hil)
   obtain ⟨b2,o2,v2,e2,l2,cn2,hs2⟩:=sls_at PB.out (i:=i) (by rw [←HM.out];exact hil)
   subst e1 e2
   have hle:(L.getD i []).length≤1000:=by
    have hil3:i < L.length:=by rw [←HM.out];exact hil
    rw [List.getD_eq_getElem?_getD,List.getElem?_eq_getElem hil3]
    exact ML.out _ (List.getElem_mem hil3)
   obtain ⟨x,hq⟩:∃ q,q=L.getD i []:=⟨_,rfl⟩
   rw [←hq] at hs1 hs2 hle
   have hsm:=fun wx (h:Below w.heap.size w wx)=>same_any x x v1 v2 wx (hs1.below h) (hs2.below h) (by omega) (by omega)
   rw [show sameB x x=true by simp [sameB]] at hsm
   have BX:=zh hbx;have SM:=zh hsm;have L1:=zh (Nat.lt_of_lt_of_le l1 hbx.size);have L2:=zh (Nat.lt_of_lt_of_le l2 hbx.size)
   have CN1:Hid (wr.cell? ⟨b1,o1+i,none⟩=some v1):=zh ((cell_keep hbx l1).trans cn1)
   have CN2:Hid (wr.cell? ⟨b2,o2+i,none⟩=some v2):=zh ((cell_keep hbx l2).trans cn2)
   clear hsm l1 l2 cn1 cn2 hs1 hs2 hle hq hbx
   go_upto_region 6 with fail
   refine wp_region_plan_in (fun x'=>Below wr.heap.size wr x') (.take 0 (.take 1 (.take 2 (.take 3 (.take 4 (.take 5 (.take 6 (.take 7 (.sole 8 (.take 9 .done)))))))))) (by kernel_rfl) (by kernel_rfl) (by kernel_rfl) (Below.refl _ _).drew ?_
   iterate 2 ((first | refine Mem.pm1 ?_ | refine Mem.pm2 ?_ | refine Mem.pt ?_ | refine Mem.pf ?_);(simp only [Mem.zp,Mem.pb,Mem.pc]))
   refine plan_index 32 31 _ _ b1 o1 m ca i zr zr zr ze ze (by omega) Tryz.underlying32 (by kernel_rfl) ?_
   (simp only [Mem.zp,Mem.pb,Mem.pc])
   refine plan_cell 31 _ _ v1 _ zr zr zr ze (fun w' hw'=>(hw'.cell (p:=⟨b1,o1+i,none⟩) L1.out).trans CN1.out) Tryz.underlying31 zr ?_
   (simp only [Mem.zp,Mem.pb,Mem.pc])
   iterate 2 ((first | refine Mem.pm1 ?_ | refine Mem.pm2 ?_ | refine Mem.pt ?_ | refine Mem.pf ?_);(simp only [Mem.zp,Mem.pb,Mem.pc]))
   refine plan_index 32 31 _ _ b2 o2 m cb i zr zr zr ze ze (by omega) Tryz.underlying32 (by kernel_rfl) ?_
   (simp only [Mem.zp,Mem.pb,Mem.pc])
   refine plan_cell 31 _ _ v2 _ zr zr zr ze (fun w' hw'=>(hw'.cell (p:=⟨b2,o2+i,none⟩) L2.out).trans CN2.out) Tryz.underlying31 zr ?_
   (simp only [Mem.zp,Mem.pb,Mem.pc])
   refine plan_call 35 _ _ _ (by kernel_rfl) zr zr zr (by first | exact Mem.ev_none _ | (simp only [List.map_toArray,List.map_cons,List.map_nil,Mem.ev_tmp,List.getD_cons_succ,List.getD_cons_zero] <;> rfl)) ?_
   refine (SM.out _ (BX.out.drew)).mono ?_
   rintro e w9 ⟨rfl,hb9⟩
   have D9:Hid (Below wr.heap.size wr w9):=zh ((Below.refl _ _).drew.trans hb9)
   clear hb9
   refine ⟨_,rfl,D9.out,?_⟩
   (simp only [Mem.zp,Mem.pb,Mem.pc])
   refine plan_not _ _ true zr zr zr ze ?_
   rw [show (!true)=false from rfl]
   (simp only [Mem.zp,Mem.pb,Mem.pc])
   refine plan_nil ?_
   have B9:=zh (BX.out.trans (D9.out.mono BX.out.size))
   go_wp2_with fail
   go_roundw
   case rel=>exact ⟨i+1,by omega,by go_num,B9.out⟩
   case measure=>simp [intOf];omega
  ·have hge:¬ (i:Int) < (m:Int):=by omega
   have BX:=zh hbx
   clear hbx
   go_wp2_with fail
   go_ret
   exact ⟨rfl,BX.out⟩
end Sha
end Go.Proofs.YtlhnegbjoncieaaGreatDoor
namespace Go.Proofs.YtlhnegbjoncieaaGreatDoor
namespace Sha
open Go.RowKit Mem
set_option maxRecDepth 100000
section
variable {key:Lb8} {ep:BitVec 32} {p:Nat} {root:RefV} {N:List NdV} {C:List ChV}
theorem sel_touch {i:Nat} {s:Lb8 × RefV} (h:selC key ep p root N C i=some s):tchC p C i=true:=by
 cases t:tchC p C i with
 | true=>rfl
 | false=>rw [sel_none t] at h;cases h
theorem puts_256 (G:GoodC p root N C):∀ q∈putsC key ep p root N C (itn p),q.1 < 2+2*itn p∧q.2.length=256:=by
 intro q hq
 unfold putsC at hq
 obtain ⟨i,hi,h⟩:=List.mem_filterMap.1 hq
 have hi:=List.mem_range.1 hi
 cases e:selC key ep p root N C i with
 | none=>rw [e] at h;cases h
 | some s=>
  have ht:=sel_touch e
  obtain ⟨pg,hp,hl⟩:=page_ok (key:=key) (ep:=ep) G hi ht
  obtain ⟨_,hs⟩:=sel_ok G ht hp hl
  rw [e] at hs
  injection hs with hs
  rw [e] at h
  injection h with h
  subst h
  have:=opl_ok G ht
  refine ⟨?_,?_⟩
  ·show 2+2*i+(1 - oplC p root N i).toNat < _
   omega
  ·show s.1.length=256
   rw [hs]
   show (sealL _ _ _ pg).length=256
   rw [sealL_length,hl]
end
end Sha
end Go.Proofs.YtlhnegbjoncieaaGreatDoor
namespace Go.Proofs.YtlhnegbjoncieaaGreatDoor
namespace Sha
open Go.RowKit Mem
theorem risN_succ (n:Nat) (C:List ChV) (m:Nat):risN n C (m+1)=risN n C m++((C.find? fun c=>pgR n c.1 == (m:Int)).map fun c=>((m:Int),c.2)).toList:=by
 unfold risN
 rw [List.range_succ,List.filterMap_append]
 congr 1
theorem risN_ok (n:Nat) (C:List ChV):∀ m,(∀ x∈risN n C m,0≤x.1∧x.1 < (m:Int)∧∃ c∈C,x.2=c.2)∧(risN n C m).Pairwise (fun a b=>a.1 < b.1):=by
 intro m
 induction m with
 | zero=>exact ⟨fun x hx=>by simp [risN] at hx,by simp [risN]⟩
 | succ m ih=>
  rw [risN_succ]
  have hlast:∀ x∈((C.find? fun c=>pgR n c.1 == (m:Int)).map fun c=>((m:Int),c.2)).toList,x.1=(m:Int)∧∃ c∈C,x.2=c.2:=by
   intro x hx
   cases e:C.find? fun c=>pgR n c.1 == (m:Int) with
   | none=>rw [e] at hx;simp at hx
   | some c=>
    rw [e] at hx
    have hx:x=((m:Int),c.2):=by simpa using hx
    exact ⟨by rw [hx],c,List.mem_of_find?_eq_some e,by rw [hx]⟩
  constructor
  ·intro x hx
   rcases List.mem_append.1 hx with hx | hx
   ·have:=ih.1 x hx;exact ⟨this.1,by omega,this.2.2⟩
   ·have:=hlast x hx;exact ⟨by omega,by omega,this.2⟩
  ·rw [List.pairwise_append]
   refine ⟨ih.2,?_,fun a ha b hb=>?_⟩
   ·cases C.find? fun c=>pgR n c.1 == (m:Int) <;> simp
   ·have h1:=(ih.1 a ha).2.1
    have h2:=(hlast b hb).1
    omega
theorem ris_len (p:Nat) (C:List ChV):(risT p C).length≤p:=risN_len p (fullC C) p
theorem ris_rise (p:Nat) (C:List ChV):riseT p (risT p C):=by
 intro i hi
 have H:=risN_ok p (fullC C) p
 have gi:(risT p C).getD i zch=(risT p C)[i]:=by rw [List.getD_eq_getElem?_getD,List.getElem?_eq_getElem hi,Option.getD_some]
 rw [gi]
 obtain ⟨a,b,c,hc,e⟩:=H.1 _ (List.getElem_mem hi)
 refine ⟨⟨a,b⟩,?_,fun h0=>?_⟩
 ·rw [e]
  unfold fullC at hc
  obtain ⟨d,_,rfl⟩:=List.mem_map.1 hc
  exact pageL_length _
 ·have hi2:i - 1 < (risT p C).length:=by omega
  rw [List.getD_eq_getElem?_getD,List.getElem?_eq_getElem hi2,Option.getD_some]
  exact (List.pairwise_iff_getElem.1 H.2) (i - 1) i hi2 hi (by omega)
theorem newP_zero {p:Nat} {P:List (Lb8)} (hP:P.length=p):newP p P []=P:=by
 refine List.ext_getElem (by rw [newP_length,hP]) fun i h1 h2=>?_
 have:=newP_get (p:=p) (P:=P) (C:=[]) (i:=i) (by rw [newP_length] at h1;exact h1)
 rw [List.getD_eq_getElem?_getD,List.getElem?_eq_getElem h1,Option.getD_some] at this
 rw [this]
 show (none:Option (Lb8)).getD _=_
 rw [Option.getD_none,List.getD_eq_getElem?_getD,List.getElem?_eq_getElem h2,Option.getD_some]
theorem newP_step {p:Nat} {P:List (Lb8)} {C:List ChV} {j q:Nat} (hc:riseT p C) (hj:j < C.length) (hq:(C.getD j zch).1=(q:Int)):newP p P (C.take (j+1))=(newP p P (C.take j)).set q (C.getD j zch).2:=by
 have ec:C.getD j zch=C[j]:=by rw [List.getD_eq_getElem?_getD,List.getElem?_eq_getElem hj,Option.getD_some]
 have et:C.take (j+1)=C.take j++[C[j]]:=by rw [List.take_add_one,List.getElem?_eq_getElem hj];rfl
 refine List.ext_getElem (by rw [List.length_set,newP_length,newP_length]) fun i h1 h2=>?_
 have hi:i < p:=by rw [newP_length] at h1;exact h1
 have a1:=newP_get (p:=p) (P:=P) (C:=C.take (j+1)) hi
 rw [List.getD_eq_getElem?_getD,List.getElem?_eq_getElem h1,Option.getD_some] at a1
 rw [a1,List.getElem_set,et]
 unfold chgP
 rw [List.find?_append]
 by_cases e:q=i
 ·rw [if_pos e]
  have hn:(C.take j).find? (fun c=>c.1 == (i:Int))=none:=by
   rw [List.find?_eq_none]
   intro x hx
   obtain ⟨k,hk,ek⟩:=List.mem_iff_getElem.1 hx
   have hk2:k < j:=by rw [List.length_take] at hk;omega
   have hl:=rise_lt hc k j hk2 hj
   rw [List.getD_eq_getElem?_getD,List.getElem?_eq_getElem (by omega),Option.getD_some] at hl
   rw [List.getElem_take] at ek
   rw [ek,hq] at hl
   intro h
   have h:x.1=(i:Int):=by simpa using h
   omega
  have hf:[C[j]].find? (fun c=>c.1 == (i:Int))=some C[j]:=by
   rw [←ec]
   have:((C.getD j zch).1 == (i:Int))=true:=by rw [hq,e];simp
   rw [List.find?_cons,this]
  rw [hn,hf,ec]
  rfl
 ·rw [if_neg e]
  have a2:=newP_get (p:=p) (P:=P) (C:=C.take j) hi
  rw [List.getD_eq_getElem?_getD,List.getElem?_eq_getElem (by rw [newP_length];exact hi),Option.getD_some] at a2
  rw [a2]
  unfold chgP
  have hf:[C[j]].find? (fun c=>c.1 == (i:Int))=none:=by
   rw [←ec]
   have:((C.getD j zch).1 == (i:Int))=false:=by rw [hq];exact beq_eq_false_iff_ne.mpr (by omega)
   rw [List.find?_cons,this];rfl
  rw [hf,Option.or_none]
theorem newP_all {p:Nat} {P:List (Lb8)} {C:List ChV}:newP p P (C.take C.length)=newP p P C:=by rw [List.take_length]
theorem ndsI_ndwf {p:Nat} {R:List RefV} (hl:R.length=itn p) (h0:1≤p) (h1:p≤216) (h:∀ r∈R,r.Wf):NdWf (ndsI p R (itn p)):=by
 have hb:=itn_big p h0 h1
 refine ⟨by simp [ndsI];omega,fun x hx=>?_,ndsI_wf h⟩
 unfold ndsI at hx
 obtain ⟨k,hk,rfl⟩:=List.mem_map.1 hx
 have hk:=List.mem_range.1 hk
 have hn:=node_kids p (p+k) h0 h1 (by omega) (by omega)
 show (kidR p R (p+k)).length≤1000
 rw [kidR_length _ _ _ (by omega)]
 have:=many_le p (p+k)
 omega
def pg0 (n j:Nat):List (Lb8):=((List.range j).map pgN)++List.replicate (n - j) []
theorem pg0_zero (n:Nat):pg0 n 0=List.replicate n []:=by simp [pg0]
theorem pg0_all (n:Nat):pg0 n n=pgsN n:=by simp [pg0,pgsN]
theorem pg0_set {n j:Nat} (h:j < n):(pg0 n j).set j (pgN j)=pg0 n (j+1):=by
 unfold pg0
 have e:n - j=(n - (j+1))+1:=by omega
 rw [e,List.replicate_succ,List.range_succ,List.map_append,List.append_assoc]
 rw [List.set_append_right _ _ (by simp)]
 simp
def wantL (j:Nat):List Value:=(List.range j).map fun (i:Nat)=>Value.int .u8 (i:Int)
theorem wantL_succ (j:Nat):wantL (j+1)=wantL j++[.int .u8 (j:Int)]:=by unfold wantL;rw [List.range_succ,List.map_append];rfl
theorem wantL_length (j:Nat):(wantL j).length=j:=by simp [wantL]
theorem wantL_get {n j:Nat} (h:j < n):(wantL n)[j]?=some (.int .u8 (j:Int)):=by unfold wantL;rw [List.getElem?_map,List.getElem?_range h];rfl
section
variable {B key:Lb8} {ep:BitVec 32} {p:Nat} {R:List RefV} {P:List (Lb8)} {C:List ChV}
theorem img_plan (h:ImgC B key p R P) (hc:riseT p C):planT key ep p (R.getD (itn p - 1) zref) (ndsI p R (itn p)) C=(putsC key ep p (R.getD (itn p - 1) zref) (ndsI p R (itn p)) C (itn p),ndsC key ep p (R.getD (itn p - 1) zref) (ndsI p R (itn p)) C (itn p),(newR key ep p R C).getD (itn p - 1) zref,0):=by
 have G:=img_good h hc
 unfold planT
 rw [if_pos ⟨G.may,G.rt⟩,img_root h]
def usedI (_p:Nat) (R:List RefV) (n:Nat):List Int:=(List.range n).map fun i=>(blkI R i:Int)
theorem usedI_succ (p:Nat) (R:List RefV) (n:Nat):usedI p R (n+1)=usedI p R n++[(blkI R n:Int)]:=by unfold usedI;rw [List.range_succ,List.map_append];rfl
theorem usedI_length (p:Nat) (R:List RefV) (n:Nat):(usedI p R n).length=n:=by simp [usedI]
theorem puts_blks (h:ImgC B key p R P) (hc:riseT p C):∀ n,n≤itn p→(∀ q∈putsC key ep p (R.getD (itn p - 1) zref) (ndsI p R (itn p)) C n,∃ i,i < n∧q.1=2+2*i+(1 - (R.getD i zref).pl.toNat))∧(putsC key ep p (R.getD (itn p - 1) zref) (ndsI p R (itn p)) C n).Pairwise fun a b=>a.1 < b.1:=by
 intro n
 induction n with
 | zero=>intro _;exact ⟨fun q hq=>absurd hq (by show ¬ q∈[];simp),List.Pairwise.nil⟩
 | succ n ih=>
  intro hn
  obtain ⟨i1,i2⟩:=ih (by omega)
  cases e:selC key ep p (R.getD (itn p - 1) zref) (ndsI p R (itn p)) C n with
  | none=>rw [putsC_none e];exact ⟨fun q hq=>let ⟨i,hi,g⟩:=i1 q hq;⟨i,by omega,g⟩,i2⟩
  | some s=>
   obtain ⟨pg,_,_,hb,_⟩:=img_sel (ep:=ep) h hc (show n < itn p by omega) (sel_touch e)
   rw [putsC_some e,hb]
   refine ⟨fun q hq=>?_,?_⟩
   ·rcases List.mem_append.1 hq with hq | hq
    ·obtain ⟨i,hi,g⟩:=i1 q hq;exact ⟨i,by omega,g⟩
    ·exact ⟨n,by omega,by rw [List.mem_singleton.1 hq]⟩
   ·rw [List.pairwise_append]
    refine ⟨i2,List.pairwise_singleton _ _,fun a ha b hb=>?_⟩
    obtain ⟨i,hi,g⟩:=i1 a ha
    rw [List.mem_singleton.1 hb,g]
    show 2+2*i+_ < 2+2*n+_
    have:=(h.plN (show i < itn p by omega)).2
    omega
def usedJ (p:Nat) (R:List RefV) (L:List (Nat × Lb8)) (j:Nat):List Int:=usedI p R (itn p)++(L.take j).map fun q=>(q.1:Int)
theorem usedJ_zero (p:Nat) (R:List RefV) (L:List (Nat × Lb8)):usedJ p R L 0=usedI p R (itn p):=by unfold usedJ;simp
theorem usedJ_succ (p:Nat) (R:List RefV) (L:List (Nat × Lb8)) {j:Nat} (hj:j < L.length):usedJ p R L (j+1)=usedJ p R L j++[((L.getD j (0,[])).1:Int)]:=by
 unfold usedJ
 rw [List.take_add_one,List.getElem?_eq_getElem hj,List.map_append,List.append_assoc,List.getD_eq_getElem?_getD,List.getElem?_eq_getElem hj]
 rfl
theorem usedJ_len (p:Nat) (R:List RefV) (L:List (Nat × Lb8)) (j:Nat):(usedJ p R L j).length≤itn p+j:=by
 unfold usedJ
 rw [List.length_append,usedI_length,List.length_map,List.length_take]
 omega
theorem usedJ_not (h:ImgC B key p R P) (hc:riseT p C) {j:Nat} (hj:j < (putsC key ep p (R.getD (itn p - 1) zref) (ndsI p R (itn p)) C (itn p)).length):(((putsC key ep p (R.getD (itn p - 1) zref) (ndsI p R (itn p)) C (itn p)).getD j (0,[])).1:Int) ∉ usedJ p R (putsC key ep p (R.getD (itn p - 1) zref) (ndsI p R (itn p)) C (itn p)) j:=by
 obtain ⟨h1,h2⟩:=puts_blks (ep:=ep) h hc (itn p) (Nat.le_refl _)
 obtain ⟨PT,hPT⟩:∃ P,P=putsC key ep p (R.getD (itn p - 1) zref) (ndsI p R (itn p)) C (itn p):=⟨_,rfl⟩
 rw [←hPT] at h1 h2 hj ⊢
 clear hPT
 have eg:PT.getD j (0,[])=PT[j]:=by rw [List.getD_eq_getElem?_getD,List.getElem?_eq_getElem hj,Option.getD_some]
 rw [eg]
 obtain ⟨i,hi,g⟩:=h1 _ (List.getElem_mem hj)
 intro hm
 unfold usedJ at hm
 rcases List.mem_append.1 hm with hm | hm
 ·unfold usedI at hm
  obtain ⟨k,hk,e⟩:=List.mem_map.1 hm
  have hk:=List.mem_range.1 hk
  have a:=(h.plN hk).2
  have b:=(h.plN hi).2
  unfold blkI at e
  have e:2+2*k+(R.getD k zref).pl.toNat=2+2*i+(1 - (R.getD i zref).pl.toNat):=by rw [g] at e;exact Int.ofNat_inj.1 e
  have:k=i:=by omega
  subst this
  omega
 ·obtain ⟨q,hq,e⟩:=List.mem_map.1 hm
  obtain ⟨k,hk,ek⟩:=List.mem_iff_getElem.1 hq
  have hk2:k < j:=by rw [List.length_take] at hk;omega
  have hl:=(List.pairwise_iff_getElem.1 h2) k j (by omega) hj hk2
  rw [List.getElem_take] at ek
  rw [ek] at hl
  have e:q.1=_:=Int.ofNat_inj.1 e
  omega
end
end Sha
end Go.Proofs.YtlhnegbjoncieaaGreatDoor
namespace Go.Proofs.YtlhnegbjoncieaaGreatDoor
namespace Sha
open Go.RowKit Mem
set_option maxRecDepth 100000
structure LyI (w0 w:World) (F D:Foot) (b bs p:Nat) (s:St6) (va:Value) (hs:List Value) (P:List (Lb8)) (vr:Value) (R:List RefV):Prop where
 st:PSt F b w s
 f:∀ k,F k→w0.heap.size≤k
 po:w.ownsRow w0.heap.size 31 1 va P.length hs
 pe:Each2 (fun q x=>SlB D w q x) hs P
 rf:OwnRf w w0.heap.size 38 vr R
 rw:∀ r∈R,r.Wf
 fa:∀ k,va.ownBlock=some k→¬ F k
 fr:∀ k,vr.ownBlock=some k→¬ F k
 d:∀ k,D k→k < w.heap.size∧va.ownBlock≠some k∧¬ F k
 bl:Below w0.heap.size w0 w
 sp:At w bs (psC p) 26
 sf:¬ F bs
section
variable {w0 w w':World} {F D:Foot} {b bs p:Nat} {s:St6} {va vr:Value} {hs:List Value} {P:List (Lb8)} {R:List RefV}
theorem LyI.sls (h:LyI w0 w F D b bs p s va hs P vr R):Sls w va P:=own_sls h.pe h.po
theorem LyI.slrf (h:LyI w0 w F D b bs p s va hs P vr R):SlRf w vr R:=own_slrf h.rf h.rw
theorem LyI.below (h:LyI w0 w F D b bs p s va hs P vr R) (hb:Below w.heap.size w w'):LyI w0 w' F D b bs p s va hs P vr R:=
 ⟨pst_below h.st hb,h.f,ownsRow_below h.po hb,h.pe.mono fun _ _ a=>a.keep hb.size fun k _ hl=>hb.block k hl,ownsRow_below h.rf hb,h.rw,h.fa,h.fr,fun k hk=>⟨Nat.lt_of_lt_of_le (h.d k hk).1 hb.size,(h.d k hk).2⟩,h.bl.trans (hb.mono h.bl.size),h.sp.below hb h.sp.lt,h.sf⟩
theorem LyI.lay (h:LyI w0 w F D b bs p s va hs P vr R) {s':St6} (he:StEnd PSt F b w s' w'):∃ F',(∀ k,F' k→F k∨w.heap.size≤k)∧LyI w0 w' F' D b bs p s' va hs P vr R:=by
 obtain ⟨⟨F',hp,hx⟩,hc⟩:=he
 have lt:=fun k (a:va.ownBlock=some k)=>(World.ownsRow.lt h.po k a).2
 have rl:=fun k (a:vr.ownBlock=some k)=>(World.ownsRow.lt h.rf k a).2
 refine ⟨F',hx,hp,fun k hk=>?_,ownsRow_keep h.po fun g hg=>hc.block g (lt g hg) (h.fa g hg),h.pe.mono fun _ _ a=>a.keep hc.size fun k hk hl=>hc.block k hl (h.d k hk).2.2,ownsRow_keep h.rf fun g hg=>hc.block g (rl g hg) (h.fr g hg),h.rw,fun k hk hf=>?_,fun k hk hf=>?_,fun k hk=>⟨Nat.lt_of_lt_of_le (h.d k hk).1 hc.size,(h.d k hk).2.1,fun hf=>?_⟩,hc.below h.bl h.f h.bl.size,?_,fun hf=>?_⟩
 ·rcases hx k hk with a | a
  ·exact h.f k a
  ·exact Nat.le_trans h.bl.size a
 ·rcases hx k hf with a | a
  ·exact h.fa k hk a
  ·have:=lt k hk;omega
 ·rcases hx k hf with a | a
  ·exact h.fr k hk a
  ·have:=rl k hk;omega
 ·rcases hx k hf with a | a
  ·exact (h.d k hk).2.2 a
  ·have:=(h.d k hk).1;omega
 ·have q:=hc.block bs h.sp.lt h.sf
  have g:=h.sp
  unfold At at *
  rw [q];exact g
 ·rcases hx bs hf with a | a
  ·exact h.sf a
  ·have:=h.sp.lt;omega
theorem LyI.grow (h:LyI w0 w F D b bs p s va hs P vr R) {E:Foot} (hE:∀ _k,E _k→_k < w.heap.size∧va.ownBlock≠some _k∧¬ F _k):LyI w0 w F (fun _k=>D _k∨E _k) b bs p s va hs P vr R:=
 ⟨h.st,h.f,h.po,h.pe.mono fun _ _ a=>a.mono fun _k hk _=>.inl hk,h.rf,h.rw,h.fa,h.fr,fun _k hk=>hk.elim (h.d _k) (hE _k),h.bl,h.sp,h.sf⟩
theorem LyI.page (h:LyI w0 w F D b bs p s va hs P vr R) {i:Nat} (hi:i < P.length):∃ g cap cur,va=.slice (some ⟨g,0,none⟩) P.length cap∧w0.heap.size≤g∧g < w.heap.size∧At w g cur 31∧i < cur.size ∧
 ∀ w' x y,At w' g (cur.setIfInBounds i x) 31→(∀ k,k≠g→w'.heap[k]?=w.heap[k]?)→(∀ B a,Below B a w→B≤g→Below B a w')→SlB D w x y→LyI w0 w' F D b bs p s va (hs.set i x) (P.set i y) vr R:=by
 obtain ⟨g,cap,cur,hv,hg,hA,hc,_,hset⟩:=ownsRow_set h.po hi
 refine ⟨g,cap,cur,hv,hg,hA.lt,hA,hc,fun w' x y hA' ho hb hx=>?_⟩
 have hvg:va.ownBlock=some g:=by rw [hv];rfl
 have hsz:w.heap.size≤w'.heap.size:=(hb g w (Below.refl _ _) (Nat.le_refl _)).size
 have hF:∀ k,F k→k≠g:=fun k hk e=>h.fa g hvg (e ▸ hk)
 have hD:∀ k,D k→k≠g:=fun k hk e=>(h.d k hk).2.1 (by rw [hvg,e])
 have kd:∀ k,D k→k < w.heap.size→w'.heap[k]?=w.heap[k]?:=fun k hk _=>ho k (hD k hk)
 have hne:=ownsRow_ne h.po h.rf (by decide)
 refine ⟨pst_keep h.st hsz fun k hk _=>ho k (hF k hk),h.f,by rw [List.length_set];exact hset w' x hA',each2_put (hx.keep hsz kd) (h.pe.mono fun _ _ a=>a.keep hsz kd) i,ownsRow_keep h.rf fun k hk=>ho k fun e=>hne g hvg (e ▸ hk),h.rw,h.fa,h.fr,fun k hk=>⟨Nat.lt_of_lt_of_le (h.d k hk).1 hsz,(h.d k hk).2⟩,hb _ _ h.bl hg,?_,h.sf⟩
 have q:=ho bs fun e=>own_ne_at h.po h.sp (by decide) (by rw [hvg,e])
 have g2:=h.sp
 unfold At at *
 rw [q];exact g2
theorem LyI.refs (h:LyI w0 w F D b bs p s va hs P vr R) {B':Nat} {vr':Value} {R':List RefV} (hB:w0.heap.size≤B') (hr:OwnRf w B' 38 vr' R') (hw:∀ r∈R',r.Wf) (hf:∀ k,vr'.ownBlock=some k→¬ F k):LyI w0 w F D b bs p s va hs P vr' R':=
 ⟨h.st,h.f,h.po,h.pe,ownsRow_base hr hB,hw,h.fa,hf,h.d,h.bl,h.sp,h.sf⟩
end
end Sha
end Go.Proofs.YtlhnegbjoncieaaGreatDoor
