/- My own texts, merged. -/
import Derived.Test.YtlhnegbjoncieaaGreatDoorBL14
import Derived.Test.YtlhnegbjoncieaaGreatDoorBL04
import Derived.Test.YtlhnegbjoncieaaGreatDoorBL09
import Derived.Test.YtlhnegbjoncieaaGreatDoorBL13
import Derived.Test.YtlhnegbjoncieaaGreatDoorBL12
import Derived.Great.Walk
import Derived.Test.YtlhnegbjoncieaaGreatDoorBL10
set_option maxRecDepth 100000
set_option maxHeartbeats 4000000
namespace Go.Proofs.YtlhnegbjoncieaaGreatDoor
namespace Sha
open Go.RowKit Mem
theorem sl_dg {w:World} {bx:Nat} {r:RefV} {t:TypeId} (hA:At w bx (refC r) t) (h:r.Wf):Sl w (.slice (some ⟨bx,2,none⟩) 32 32) r.dg:=
 ⟨_,_,by rw [h.dg],by rw [h.dg];exact Nat.le_refl _,fun _=>⟨bx,2,rfl,hA.lt,fun i hi=>(hA.cell _).trans (ref_dg h i (by rw [h.dg] at hi;exact hi))⟩⟩
def refCs (L:List RefV):List Value:=L.flatMap refL
theorem refL_length {r:RefV} (h:r.Wf):(refL r).length=34:=by simp [refL,u8s_length,h.dg]
theorem refCs_length (L:List RefV) (h:∀ r∈L,r.Wf):(refCs L).length=L.length*34:=by
 induction L with
 | nil=>rfl
 | cons r L ih=>
  unfold refCs at *
  rw [List.flatMap_cons,List.length_append,refL_length (h r (List.mem_cons_self ..)),ih (fun x hx=>h x (List.mem_cons_of_mem _ hx)),List.length_cons]
  omega
theorem refCs_snoc (L:List RefV) (r:RefV):refCs (L++[r])=refCs L++refL r:=by simp [refCs]
theorem refCs_take (L:List RefV) (n:Nat) (h:n < L.length):refCs (L.take (n+1))=refCs (L.take n)++refL (L.getD n zref):=by
 unfold refCs
 rw [List.take_add_one,List.getElem?_eq_getElem h,List.flatMap_append]
 simp [List.getD_eq_getElem?_getD,List.getElem?_eq_getElem h]
theorem refCs_get:∀ (L:List RefV),(∀ r∈L,r.Wf)→∀ i k,i < L.length→k < 34→(refCs L)[i*34+k]?=(refL (L.getD i zref))[k]?:=by
 intro L
 induction L with
 | nil=>intro _ i k hi _;simp at hi
 | cons r L ih=>
  intro h i k hi hk
  have hl:=refL_length (h r (List.mem_cons_self ..))
  unfold refCs
  rw [List.flatMap_cons]
  match i with
  | 0=>rw [Nat.zero_mul,Nat.zero_add,List.getElem?_append_left (by omega)];rfl
  | i+1=>
   rw [List.getElem?_append_right (by omega),hl,show (i+1)*34+k - 34=i*34+k by omega]
   exact ih (fun x hx=>h x (List.mem_cons_of_mem _ hx)) i k (by simpa using hi) hk
theorem getD_wf {L:List RefV} (h:∀ r∈L,r.Wf) (i:Nat):(L.getD i zref).Wf:=by
 rw [List.getD_eq_getElem?_getD]
 by_cases hi:i < L.length
 ·rw [List.getElem?_eq_getElem hi];exact h _ (List.getElem_mem hi)
 ·rw [List.getElem?_eq_none (by omega)];exact zref_wf
def SlRf (w:World) (v:Value) (L:List RefV):Prop:=
 ∃ a cap,v=.slice a L.length cap∧(L≠[]→∃ b o,a=some ⟨b,o,none⟩∧b < w.heap.size∧∀ i,i < L.length→w.rangeAt b (o+i*34) (refL (L.getD i zref)))
theorem SlRf.nil (w:World):SlRf w (.slice none 0 0) []:=⟨none,0,rfl,fun h=>absurd rfl h⟩
theorem SlRf.hd {w:World} {v:Value} {L:List RefV} (h:SlRf w v L):∃ a c,v=.slice a L.length c:=let ⟨a,c,e,_⟩:=h;⟨a,c,e⟩
theorem SlRf.hdn {w:World} {v:Value} {L:List RefV} {n:Nat} (h:SlRf w v L) (hn:L.length=n):∃ a c,v=.slice a n c:=let ⟨a,c,e⟩:=h.hd;⟨a,c,by rw [e,hn]⟩
theorem range_block {w wr:World} {b o:Nat} {cs:List Value} (h:w.rangeAt b o cs) (hb:wr.heap[b]?=w.heap[b]?):wr.rangeAt b o cs:=fun j v hv=>(World.cell?_of_block (w:=w) (w':=wr) (a:=⟨b,o+j,none⟩) hb).trans (h j v hv)
theorem SlRf.below {w wr:World} {v:Value} {L:List RefV} (h:SlRf w v L) (hb:Below w.heap.size w wr):SlRf wr v L:=by
 obtain ⟨a,cap,e,hr⟩:=h
 refine ⟨a,cap,e,fun hne=>?_⟩
 obtain ⟨b,o,ea,hlt,hc⟩:=hr hne
 exact ⟨b,o,ea,Nat.lt_of_lt_of_le hlt hb.size,fun i hi=>range_block (hc i hi) (hb.block b hlt)⟩
theorem slrf_at {w:World} {a:Option Addr} {n c i:Nat} {L:List RefV} (h:SlRf w (.slice a n c) L) (hn:n=L.length) (hi:i < n):∃ b o,a=some ⟨b,o,none⟩∧b < w.heap.size∧w.rangeAt b (o+i*34) (refL (L.getD i zref)):=by
 obtain ⟨a',c',e,hr⟩:=h
 obtain ⟨b,o,ea,hlt,hc⟩:=hr (by intro e0;subst e0;simp at hn;omega)
 injection e with e1 _ _
 subst e1
 exact ⟨b,o,ea,hlt,hc i (by omega)⟩
theorem slrf_cell {w:World} {b o n c i:Nat} {L:List RefV} (h:SlRf w (.slice (some ⟨b,o,none⟩) n c) L) (hn:n=L.length) (hi:i < n):w.rangeAt b (o+i*34) (refL (L.getD i zref)):=by
 obtain ⟨b',o',e,_,cx⟩:=slrf_at h hn hi
 injection e with e
 injection e with e2 e3 _
 subst e2 e3
 exact cx
theorem range_pl {w:World} {b o:Nat} {r:RefV} (h:w.rangeAt b o (refL r)):w.cell? ⟨b,o,none⟩=some (.int .i64 r.pl):=by
 have:=h 0 (.int .i64 r.pl) rfl
 simpa using this
abbrev OwnRf (w:World) (B:Nat) (t:TypeId) (v:Value) (L:List RefV):Prop:=w.ownsRow B t 34 v L.length (refCs L)
theorem own_slrf {w:World} {B:Nat} {t:TypeId} {v:Value} {L:List RefV} (h:OwnRf w B t v L) (hw:∀ r∈L,r.Wf):SlRf w v L:=by
 rcases h.2 with ⟨rfl,h0⟩ | ⟨g,cap,cur,rfl,_,hh,_,_,hs,ht⟩
 ·have:L=[]:=List.eq_nil_of_length_eq_zero h0
  subst this
  exact SlRf.nil w
 ·refine ⟨_,_,rfl,fun _=>⟨g,0,rfl,(Array.getElem?_eq_some_iff.1 hh).1,fun i hi j u hu=>?_⟩⟩
  have hj:j < 34:=by
   have:=(List.getElem?_eq_some_iff.1 hu).1
   rwa [refL_length (getD_wf hw i)] at this
  rw [cell_of_row w g _ cur _ (0,0) hh,Nat.zero_add]
  have h1:=refCs_get L hw i j hi hj
  rw [←ht,List.getElem?_take,if_pos (by omega),Array.getElem?_toList] at h1
  rw [h1];exact hu
theorem refL_one (r:RefV):∀ u∈refL r,u.oneCell'=true:=by
 intro u hm
 simp only [refL,List.mem_append,List.mem_cons,List.not_mem_nil,or_false] at hm
 rcases hm with (rfl | rfl) | hm
 all_goals first | rfl | exact u8s_cells _ _ hm
theorem rfRP:(Tryz.prog.info? 38).map (fun i=>(i.zero,i.size,i.bytes))=some (some (.agg (refC zref)),34,48):=by kernel_rfl
theorem elemRP:elemR Tryz.prog 27 38 (.agg (refC zref)) 34 48:=⟨Tryz.underlying27,rfRP⟩
theorem built_rp (r:RefV) (hr:r.Wf):Tryz.prog.builtSlice 38 1 [(0,.agg (refC r))]=some (refC r):=by
 obtain ⟨p,e,dg⟩:=r
 have h:dg.length=32:=hr.dg
 match dg,h with
 | [a0,a1,a2,a3,a4,a5,a6,a7,a8,a9,a10,a11,a12,a13,a14,a15,a16,a17,a18,a19,a20,a21,a22,a23,a24,a25,a26,a27,a28,a29,a30,a31],_=>show Program.builtSlice _ _ _ _=some _;kernel_rfl
theorem rd_rf {w:World} {e:TypeId} {r:RefV} (hr:r.Wf):RdR (w.alloc (.cells (refC r) e)) 34 (.slice (some ⟨w.heap.size,0,none⟩) 1 1) 1 (refL r):=by
 have h:=rdR_new (w:=w) (e:=e) (C:=refC r)
 rw [refC_size hr] at h
 exact h
def RfOwn (t:TypeId) (w:World) (L:List RefV) (n:Int) (e:Ending) (w':World):Prop:=∃ v,e=.returned (.tuple #[v,.int .i64 n])∧OwnRf w' w.heap.size t v L∧Below w.heap.size w w'
end Sha
end Go.Proofs.YtlhnegbjoncieaaGreatDoor
namespace Go.Proofs.YtlhnegbjoncieaaGreatDoor
namespace Sha
open Go.RowKit Mem
set_option maxRecDepth 100000
theorem layN_few {L:List RefV} (h:L.length < 1∨6 < L.length):layN L=([],1):=by
 unfold layN
 exact if_pos (by rcases h with h | h;exact .inl h;exact .inr (.inl h))
theorem layN_place {L:List RefV} (i:Nat) (hi:i < L.length) (h:plOk (L.getD i zref)=false):layN L=([],1):=by
 unfold layN
 refine if_pos (.inr (.inr ?_))
 rw [List.all_eq_false]
 have e:L.getD i zref=L[i]:=by simp [List.getD_eq_getElem?_getD,hi]
 rw [e] at h
 exact ⟨L[i],List.getElem_mem hi,by rw [h];decide⟩
theorem layN_good {L:List RefV} (h1:1≤L.length) (h6:L.length≤6) (h:∀ i,i < L.length→plOk (L.getD i zref)=true):layN L=(bodyN L L.length++List.replicate (256 - (1+37*L.length)) 0,0):=by
 unfold layN
 refine if_neg (fun hc=>?_)
 rcases hc with hc | hc | hc
 ·omega
 ·omega
 ·rw [List.all_eq_false] at hc
  obtain ⟨r,hr,hp⟩:=hc
  obtain ⟨i,hi,rfl⟩:=List.getElem_of_mem hr
  have e:L.getD i zref=L[i]:=by simp [List.getD_eq_getElem?_getD,hi]
  exact hp (by rw [←e];exact h i hi)
theorem parse_piece (p:Lb8) (i:Nat) (h:p.length=256) (hi:i < 6):parseRf (pieceN p i)=if 1 < ((pieceN p i).getD 0 0).toNat then (zref,1) else (rfOf (pieceN p i),0):=by
 unfold parseRf
 have hl:=piece_length p i h hi
 by_cases g:1 < ((pieceN p i).getD 0 0).toNat
 ·rw [if_pos (.inr g),if_pos g]
 ·rw [if_neg (by rintro (x | x);exact x hl;exact g x),if_neg g]
end Sha
end Go.Proofs.YtlhnegbjoncieaaGreatDoor
namespace Go.Proofs.YtlhnegbjoncieaaGreatDoor
namespace Sha
open Go.RowKit Mem
theorem refCs_set:∀ (L:List RefV) (i:Nat) (r:RefV),(∀ x∈L,x.Wf)→i < L.length→refCs (L.set i r)=(refCs L).take (i*34)++refL r++(refCs L).drop (i*34+34):=by
 intro L
 induction L with
 | nil=>intro i r _ hi;simp at hi
 | cons x L ih=>
  intro i r h hi
  have hl:=refL_length (h x (List.mem_cons_self ..))
  match i with
  | 0=>
   show refL r++refCs L=([]++refL r)++(refL x++refCs L).drop (0*34+34)
   rw [List.nil_append,List.drop_append,List.drop_of_length_le (by omega),List.nil_append,hl]
   rfl
  | i+1=>
   have e:=ih i r (fun y hy=>h y (List.mem_cons_of_mem _ hy)) (by simpa using hi)
   show refL x++refCs (L.set i r)=(refL x++refCs L).take ((i+1)*34)++refL r++(refL x++refCs L).drop ((i+1)*34+34)
   have t1:(refL x++refCs L).take ((i+1)*34)=refL x++(refCs L).take (i*34):=by
    rw [List.take_append,hl,List.take_of_length_le (show (refL x).length≤(i+1)*34 by omega),show (i+1)*34 - 34=i*34 by omega]
   have d1:(refL x++refCs L).drop ((i+1)*34+34)=(refCs L).drop (i*34+34):=by
    rw [List.drop_append,hl,List.drop_of_length_le (show (refL x).length≤(i+1)*34+34 by omega),List.nil_append,show (i+1)*34+34 - 34=i*34+34 by omega]
   rw [e,t1,d1]
   simp [List.append_assoc]
theorem splice_take (C:Array Value) (o m:Nat) (D:List Value) (h:o+D.length≤m) (hm:m≤C.size):(Mem.splice C o D).toList.take m=(C.toList.take m).take o++D++(C.toList.take m).drop (o+D.length):=by
 have hs:C.toList.length=C.size:=by simp
 have hA:(C.toList.take o++D).length=o+D.length:=by rw [List.length_append,List.length_take,hs];omega
 unfold Mem.splice
 show (C.toList.take o++D++C.toList.drop (o+D.length)).take m=_
 rw [List.take_append,hA,List.take_of_length_le (by omega),List.drop_take,List.take_take,Nat.min_eq_left (by omega)]
theorem own_store {w:World} {B i:Nat} {t:TypeId} {v:Value} {L:List RefV} {r:RefV} (h:OwnRf w B t v L) (hw:∀ x∈L,x.Wf) (hr:r.Wf) (hi:i < L.length) :
 ∃ g cap cur,v=.slice (some ⟨g,0,none⟩) L.length cap∧B≤g∧g < w.heap.size∧At w g cur t∧i*34+34≤cur.size∧OwnRf (w.setRow g (Mem.splice cur (i*34) (refL r))) B t v (L.set i r):=by
 rcases h.2 with ⟨_,h0⟩ | ⟨g,cap,cur,rfl,hg,hh,hn,hm,hs,ht⟩
 ·omega
 have hrl:=refL_length hr
 have hle:i*34+34≤cur.size:=by rw [hs];omega
 refine ⟨g,cap,cur,rfl,hg,(Array.getElem?_eq_some_iff.1 hh).1,hh,hle,?_,?_⟩
 ·rw [refCs_length _ (fun x hx=>?_),List.length_set]
  rcases List.mem_or_eq_of_mem_set hx with a | a
  ·exact hw x a
  ·rw [a];exact hr
 ·refine .inr ⟨g,cap,Mem.splice cur (i*34) (refL r),?_,hg,At.row (show At w g cur t from hh) _,?_,hm,?_,?_⟩
  ·rw [List.length_set]
  ·rw [List.length_set];exact hn
  ·rw [←hs]
   unfold Mem.splice
   simp [hrl]
   omega
  ·rw [List.length_set,splice_take cur (i*34) (L.length*34) (refL r) (by rw [hrl];omega) (by rw [hs];omega),ht,hrl,refCs_set L i r hw hi]
def TwoOwn (w:World) (L:Lb8) (n:Int) (e:Ending) (w':World):Prop:=
 ∃ g,e=.returned (.tuple #[.slice (some ⟨g,0,none⟩) L.length L.length,.int .i64 n])∧At w' g (u8s L).toArray 5∧w.heap.size≤g∧Below w.heap.size w w'
theorem pnumput_own (b:Lb8) (n:Nat) (size:Int) (v:Value) (w:World) (hv:Sl w v b) (hb:b.length≤8000) (hn:n < 18446744073709551616) :
 Calls Tryz.prog 111 #[v,.int .u64 (n:Int),.int .i64 size] w (SEnd w (b++nbytes n (cutN size 1 8))):=by
 have hns:=fun wx=>numSize_any size wx
 have c1:=cutN_lo size 1 8 (by decide)
 have c8:=cutN_hi size 1 8
 obtain ⟨K,hK⟩:∃ K,K=cutN size 1 8:=⟨_,rfl⟩
 rw [←hK] at hns c1 c8 ⊢
 have hle:=lengthen_any b K v w (by omega) hv
 obtain ⟨a0,cap,rfl,_,_⟩:=hv
 obtain ⟨m,hm⟩:∃ m,m=b.length:=⟨_,rfl⟩
 have hlen:(b++List.replicate K 0).length=m+K:=by simp [hm]
 have hlen2:(b++nbytes n K).length=m+K:=by simp [hm,nbytes_length]
 have hpn:=fun g wx h=>putNum_any b n g m K K wx hm hn c1 c8 (Nat.le_refl _) h
 rw [←hm] at hle hb ⊢
 have NS:=zh hns;have LE:=zh hle;have HL:=zh hlen;have HL2:=zh hlen2;have PN:=zh hpn
 clear hns hle hlen hlen2 hpn hm hK
 go_enter Tryz.func111,Tryz.ntmps111
 go_wp2_with fail
 refine (NS.out _).mono ?_
 rintro o w' ⟨rfl,rfl⟩
 go_wp2_with fail
 refine LE.out.mono ?_
 rintro o w2 ⟨g,rfl,ha,hg,hb2⟩
 rw [HL.out]
 have HA:=zh ha;have HG:=zh hg;have HB:=zh hb2
 clear ha hg hb2 LE NS
 go_wp2_with (refine wpList_slice_low zr 31 _ _ zr 5 Tryz.underlying31 infoB (some ⟨g,0,none⟩) (m+K) (m+K) m zr zr (by omega) ?_;intro a1 h1;have e1:=h1 g 0 rfl (by omega);subst e1;clear h1;rw [Nat.add_sub_cancel_left,Nat.zero_add])
 refine (PN.out g w2 HA.out).mono ?_
 rintro o w3 ⟨rfl,ha3,hk3⟩
 have HA3:=zh ha3;have HB3:=zh (hk3 _ _ HB.out HG.out)
 clear ha3 hk3
 go_wp2_with fail
 go_ret
 exact ⟨g,by rw [HL2.out];rfl,HA3.out,HG.out,HB3.out⟩
theorem own_fulls {w:World} {B g:Nat} {L:Lb8} (h:At w g (u8s L).toArray 5) (hB:B≤g) (hl:L.length≤100000):OwnB w B (.slice (some ⟨g,0,none⟩) L.length L.length) L:=
 ⟨by simp [u8s_length],.inr ⟨g,L.length,(u8s L).toArray,rfl,hB,h,Nat.le_refl _,by simp [maxLen];omega,by simp [u8s_length],by rw [List.take_of_length_le (by simp [u8s_length])]⟩⟩
theorem num1_any (b:Lb8) (n:Nat) (v:Value) (w:World) (hv:Sl w v b) (hb:b.length≤8000) (hn:n < 18446744073709551616):Calls Tryz.prog 111 #[v,.int .u64 (n:Int),.int .i64 1] w (SEnd w (b++nbytes n 1)):=pnumput_own b n 1 v w hv hb hn
theorem num4_any (b:Lb8) (n:Nat) (v:Value) (w:World) (hv:Sl w v b) (hb:b.length≤8000) (hn:n < 18446744073709551616):Calls Tryz.prog 111 #[v,.int .u64 (n:Int),.int .i64 4] w (SEnd w (b++nbytes n 4)):=pnumput_own b n 4 v w hv hb hn
end Sha
end Go.Proofs.YtlhnegbjoncieaaGreatDoor
namespace Go.Proofs.YtlhnegbjoncieaaGreatDoor
namespace Sha
open Go.RowKit Mem
set_option maxRecDepth 100000
def tkC (L:List RefV) (n:Nat):Array Value:=(refCs L++[Value.int .i64 (n:Int)]).toArray
def pad6 (L:List RefV):List RefV:=L++List.replicate (6 - L.length) zref
theorem pad6_len {L:List RefV} (h:L.length≤6):(pad6 L).length=6:=by simp [pad6];omega
theorem pad6_wf {L:List RefV} (h:∀ r∈L,r.Wf):∀ r∈pad6 L,r.Wf:=by
 intro r hr
 rcases List.mem_append.1 hr with a | a
 ·exact h r a
 ·rw [(List.mem_replicate.1 a).2];exact zref_wf
theorem pad6_take (L:List RefV):(pad6 L).take L.length=L:=by simp [pad6]
theorem pad6_next {L:List RefV} (r:RefV) (h:L.length < 6):(pad6 L).set L.length r=pad6 (L++[r]):=by
 unfold pad6
 rw [List.set_append_right _ _ (Nat.le_refl _),Nat.sub_self,List.length_append,List.append_assoc]
 congr 1
 obtain ⟨k,hk⟩:∃ k,6 - L.length=k+1:=⟨6 - L.length - 1,by omega⟩
 rw [hk,List.replicate_succ,List.set_cons_zero]
 simp
 omega
section
variable {L:List RefV} {n:Nat}
theorem tkC_size (hw:∀ r∈L,r.Wf) (hl:L.length=6):(tkC L n).size=205:=by simp [tkC,refCs_length L hw,hl]
theorem tkC_many (hw:∀ r∈L,r.Wf) (hl:L.length=6):(tkC L n)[204]?=some (.int .i64 (n:Int)):=by
 have h:=refCs_length L hw
 rw [hl] at h
 simp [tkC,h]
theorem tkC_one:(tkC L n).all (·.oneCell')=true:=by
 rw [Array.all_eq_true]
 intro i hi
 have hm:(tkC L n)[i]∈refCs L++[Value.int .i64 (n:Int)]:=by
  simp [tkC]
 rcases List.mem_append.1 hm with h | h
 ·obtain ⟨r,_,hr⟩:=List.mem_flatMap.1 h
  exact refL_one r _ hr
 ·rw [List.mem_singleton.1 h];rfl
theorem tkC_set {r:RefV} {i:Nat} (hw:∀ r∈L,r.Wf) (hl:L.length=6) (hr:r.Wf) (hi:i < 6):Mem.splice (tkC L n) (i*34) (refL r)=tkC (L.set i r) n:=by
 have h:=refCs_length L hw
 rw [hl] at h
 have hrl:=refL_length hr
 unfold Mem.splice tkC
 rw [refCs_set L i r hw (by omega),List.take_append_of_le_length (by omega),hrl,List.drop_append_of_le_length (by omega)]
 simp [List.append_assoc]
theorem tk_range {w:World} {b i:Nat} {t:TypeId} (h:At w b (tkC L n) t) (hw:∀ r∈L,r.Wf) (hl:L.length=6) (hi:i < 6):w.rangeAt b (i*34) (refL (L.getD i zref)):=by
 intro j v hv
 have hj:j < 34:=by
  have:=(List.getElem?_eq_some_iff.1 hv).1
  rwa [refL_length (getD_wf hw i)] at this
 have hlen:=refCs_length L hw
 rw [h.cell,tkC,List.getElem?_toArray,List.getElem?_append_left (by omega),refCs_get L hw i j (by omega) hj]
 exact hv
theorem tk_sl {w:World} {b m c:Nat} {t:TypeId} (h:At w b (tkC L n) t) (hw:∀ r∈L,r.Wf) (hl:L.length=6) (hm:m≤6):SlRf w (.slice (some ⟨b,0,none⟩) m c) (L.take m):=by
 have e:(L.take m).length=m:=by rw [List.length_take];omega
 refine ⟨some ⟨b,0,none⟩,c,by rw [e],fun _=>⟨b,0,rfl,h.lt,fun i hi=>?_⟩⟩
 rw [e] at hi
 have g:(L.take m).getD i zref=L.getD i zref:=by simp [List.getD_eq_getElem?_getD,hi]
 rw [g,Nat.zero_add]
 exact tk_range h hw hl (by omega)
end
theorem zeroTk (w:World):(zeroValue 221).run Tryz.prog w=.ok (.agg (tkC (pad6 []) 0)) w:=by kernel_rfl
theorem buildTk0 (w:World):(Instr.build 221 #[]).run Tryz.prog w=.ok (.agg (tkC (pad6 []) 0)) w:=run_build w _ _ _ (by kernel_rfl)
theorem buildTk1 (n:Nat) (w:World):(Instr.build 221 #[(1,.int .i64 (n:Int))]).run Tryz.prog w=.ok (.agg (tkC (pad6 []) n)) w:=run_build w _ _ _ (by kernel_rfl)
theorem infoTk:(Tryz.prog.info? 221).map (·.size)=some 205:=by kernel_rfl
theorem wpList_cut_all {P:Program} {ops:Array Oper} {rest:List Oper} {op:Oper} {a:Act} {w:World} {Q:Exit→Act→World→Prop} (hgd:op.guard=none) (ty:TypeId) (x:Operand) (ho:op.op=.slice ty x none none none)
 (n:Nat) (elem:TypeId) (hu:P.underlying ty=some (.array n elem)) (z:Nat) (hs:(P.info? elem).map (·.size)=some z) (b o:Nat) (hx:a.eval x=.pointer (some ⟨b,o,none⟩))
 (h:wpList P ops Q rest (a.put op.dst (.slice (some ⟨b,o,none⟩) n n)) w):wpList P ops Q (op::rest) a w:=by
 refine wpList_plain hgd fun K hK=>?_
 cases hq:P.info? elem with
 | none=>simp [hq] at hs
 | some q=>
  have hat:(Instr.sliceAt ty (.pointer (some ⟨b,o,none⟩)) none none none).run P w=.ok (.slice (some ⟨b,o,none⟩) n n) w:=by
   simp [Instr.sliceAt,Instr.sureAddr,Instr.sliceBounds,Sem.run_bind,run_underlying hu,sizeOf,typeInfo,hq,Addr.add_mid]
  unfold Oper.wp execOp
  simp only [ho,hx,Option.map_none,Sem.run_bind,hat,Result.andThen_ok,Sem.run_pure]
  exact hK _ _ h
end Sha
end Go.Proofs.YtlhnegbjoncieaaGreatDoor
namespace Go.Proofs.YtlhnegbjoncieaaGreatDoor
namespace Sha
open Go.RowKit Mem
theorem nb1_int (z:Int) (m:Nat) (hm:(m:Int)=z % 18446744073709551616):nbytes m 1=[BitVec.ofInt 8 z]:=by
 have e:nbyte m 0=BitVec.ofInt 8 z:=by
  apply BitVec.eq_of_toNat_eq
  unfold nbyte
  rw [BitVec.toNat_ofNat,BitVec.toNat_ofInt]
  omega
 simp [nbytes,List.range_succ,e]
theorem nb4_le4 (x:BitVec 32):nbytes x.toNat 4=le4 x:=by
 have e:∀ i,nbyte x.toNat i=wb x (8*i):=fun i=>by
  apply BitVec.eq_of_toNat_eq
  unfold nbyte wb
  rw [BitVec.toNat_ofNat,BitVec.toNat_setWidth,BitVec.toNat_ushiftRight,Nat.shiftRight_eq_div_pow,Nat.pow_mul]
 simp [nbytes,le4,List.range_succ,e]
theorem conv_iu64 (z:Int) (m:Nat) (hm:(m:Int)=z % 18446744073709551616) (w:World):(convert 3 190 (.int .i64 z)).run Tryz.prog w=.ok (.int .u64 (m:Int)) w:=by
 have h2:IntKind.u64.wrap z=(m:Int):=by rw [IntKind.wrap_u64,hm]
 go_simp
theorem conv_u3264 (x:BitVec 32) (w:World):(convert 36 190 (.int .u32 (V x))).run Tryz.prog w=.ok (.int .u64 ((x.toNat:Nat):Int)) w:=by
 have hx:=x.isLt
 have h2:IntKind.u64.wrap (V x)=((x.toNat:Nat):Int):=by
  rw [IntKind.wrap_u64]
  show (x.toNat:Int) % _=_
  omega
 go_simp
theorem play9_any (r:RefV) (hr:r.Wf) (w:World):Calls Tryz.prog 113 #[.agg (refC r)] w (RSEnd w (layRf r)):=by
 have r0:=ref0 r
 have r1:=ref1 r
 have an:=at_new w (refC r) 38
 have bn:Below w.heap.size w (w.alloc (.cells (refC r) 38)):=(Below.refl _ _).alloc (Nat.le_refl _) _
 have sd:=fun (wx:World) (g:Nat) (h:At wx g (refC r) 38)=>sl_dg h hr
 have hdl:=hr.dg
 obtain ⟨m,hm⟩:∃ m:Nat,(m:Int)=r.pl % 18446744073709551616:=⟨(r.pl % 18446744073709551616).toNat,by omega⟩
 have hml:m < 18446744073709551616:=by omega
 have cv0:=fun wx=>conv_iu64 r.pl m hm wx
 have cv1:=fun wx=>conv_u3264 r.ep wx
 obtain ⟨M1,hM1⟩:∃ M,M=([]:Lb8)++nbytes m 1:=⟨_,rfl⟩
 have ln1:M1.length=1:=by rw [hM1,List.length_append,nbytes_length];rfl
 have nu1:∀ v wx,Sl wx v ([]:Lb8)→Calls Tryz.prog 111 #[v,.int .u64 (m:Int),.int .i64 1] wx (SEnd wx M1):=fun v wx hs=>by rw [hM1];exact num1_any _ _ v wx hs (by decide) hml
 obtain ⟨M2,hM2⟩:∃ M,M=M1++nbytes r.ep.toNat 4:=⟨_,rfl⟩
 have ln2:M2.length=5:=by rw [hM2,List.length_append,nbytes_length,ln1]
 have nu2:∀ v wx,Sl wx v M1→Calls Tryz.prog 111 #[v,.int .u64 ((r.ep.toNat:Nat):Int),.int .i64 4] wx (SEnd wx M2):=fun v wx hs=>by rw [hM2];exact num4_any _ _ v wx hs (by rw [ln1];decide) (by have:=r.ep.isLt;omega)
 have hlay:M2++r.dg=layRf r:=by rw [hM2,hM1,nb1_int r.pl m hm,nb4_le4,layRf,List.nil_append]
 obtain ⟨M,hM⟩:∃ M,M=refC r:=⟨_,rfl⟩
 rw [←hM] at r0 r1 an bn sd ⊢
 have c0:(w.alloc (.cells M 38)).cell? ⟨w.heap.size,0,none⟩=some (.int .i64 r.pl):=(an.cell 0).trans r0
 have AN:=zh an;have BN:=zh bn;have SD:=zh sd;have DL:=zh hdl;have CV0:=zh cv0;have CV1:=zh cv1;have LN1:=zh ln1;have NU1:=zh nu1;have LN2:=zh ln2;have NU2:=zh nu2;have HL:=zh hlay;have R1:=zh r1
 clear r0 r1 an bn sd hdl cv0 cv1 ln1 nu1 ln2 nu2 hlay hM hM1 hM2 hm hml hr
 obtain ⟨pl,hpl⟩:∃ pl,pl=r.pl:=⟨_,rfl⟩
 rw [←hpl] at c0 CV0
 obtain ⟨ep,hep⟩:∃ ep,ep=r.ep:=⟨_,rfl⟩
 rw [←hep] at R1 CV1 NU2
 clear hpl hep
 obtain ⟨e4,he4⟩:∃ e4,e4=ep.toNat:=⟨_,rfl⟩
 rw [←he4] at CV1 NU2
 clear he4
 go_enter Tryz.func113,Tryz.ntmps113
 go_upto_region 1 with fail
 obtain ⟨g0,hg0⟩:∃ g,g=w.heap.size:=⟨_,rfl⟩
 rw [←hg0] at AN c0 ⊢
 have HG:=zh hg0
 clear hg0
 generalize w.alloc (.cells M 38)=w1 at *
 go_wp2_with (refine wpList_conv zr _ _ _ _ (.int .u64 (m:Int)) zr zr CV0.out ?_)
 refine (NU1.out _ _ (sl_none _)).mono ?_
 rintro e w3 ⟨g,rfl,ha,hg,hb⟩
 have B3:Hid (Below w1.heap.size w1 w3):=zh hb
 have A3:=zh (AN.out.below hb AN.out.lt)
 have S3:=zh (at_sl ha rfl)
 rw [LN1.out]
 rw [LN1.out] at S3
 clear c0 ha hg hb
 have cc:w3.cell? ⟨g0,1,none⟩=some (.int .u32 (V ep)):=(A3.out.cell 1).trans R1.out
 go_wp2_with (refine wpList_conv zr _ _ _ _ (.int .u64 (e4:Int)) zr zr CV1.out ?_)
 refine (NU2.out _ _ S3.out).mono ?_
 rintro e w4 ⟨g4,rfl,ha,hg,hb⟩
 have B4:Hid (Below w1.heap.size w1 w4):=zh (B3.out.trans (hb.mono B3.out.size))
 have A4:=zh (A3.out.below hb A3.out.lt)
 have O4:Hid (OwnB w4 w1.heap.size (.slice (some ⟨g4,0,none⟩) 5 5) M2):=zh (by have h:=own_fulls ha (Nat.le_trans B3.out.size hg) (by rw [LN2.out];decide);rw [LN2.out] at h;exact h)
 rw [LN2.out]
 clear cc ha hg hb S3
 go_wp2_with (first
  | (refine wpList_slice_arr zr 22 _ zr 32 5 g0 2 zr Tryz.underlying22 infoB ?_)
  | (at_builtin;go_loud (refine wpList_append_bytes zr _ _ zr w1.heap.size (.slice (some ⟨g4,0,none⟩) 5 5) (.slice (some ⟨g0,2,none⟩) 32 32) M2 r.dg zr O4.out zr (SD.out w4 g0 A4.out) (by rw [LN2.out,DL.out];decide) B4.out.size ?_);intro v9 w9 ho9 _ hb9;have O9:=zh ho9;have B9:=zh (B4.out.trans hb9);clear ho9 hb9))
 go_ret
 exact ⟨_,rfl,by rw [←HL.out];exact O9.out.sl,BN.out.trans (B9.out.mono BN.out.size)⟩
theorem pfill_own (b:Lb8) (size:Nat) (v:Value) (w:World) (hv:Sl w v b) (hle:b.length≤size) (hs:size≤8000):Calls Tryz.prog 114 #[v,.int .i64 (size:Int)] w (TwoOwn w (fillB b size) 0):=by
 have hl:=lengthen_any b (size - b.length) v w (by omega) hv
 rw [show ((size - b.length:Nat):Int)=(size:Int) - (b.length:Int) by omega] at hl
 obtain ⟨a0,cap,rfl,_,_⟩:=hv
 obtain ⟨m,hm⟩:∃ m,m=b.length:=⟨_,rfl⟩
 unfold fillB
 rw [←hm] at hle hl ⊢
 have g1:¬ (size:Int) < (m:Int):=by omega
 have g2:¬ (2147483647:Int) < (size:Int):=by omega
 have LE:=zh hl
 clear hl hm
 go_enter Tryz.func114,Tryz.ntmps114
 go_wp2_with fail
 refine LE.out.mono ?_
 rintro o w2 ⟨g,rfl,ha,hg,hb2⟩
 have HA:=zh ha;have HB:=zh hb2;have HG:=zh hg
 clear ha hb2 hg LE
 go_wp2_with fail
 go_ret2
 exact ⟨g,by rw [List.length_append,List.length_replicate];rfl,HA.out,HG.out,HB.out⟩
end Sha
end Go.Proofs.YtlhnegbjoncieaaGreatDoor
namespace Go.Proofs.YtlhnegbjoncieaaGreatDoor
namespace Sha
open Go.RowKit Mem
set_option maxRecDepth 100000
theorem run_copy_big {P:Program} (w:World) (dT sT ty elem:TypeId) (g o dLen dCap:Nat) (a:Addr) (sLen sCap:Nat) (cur:Array Value) (t:TypeId) (cs:List Value) (sz k:Nat)
 (hu:P.underlying dT=some (.slice elem)) (hs:(P.info? elem).map (·.size)=some sz)
 (hg:w.heap[g]?=some (.cells cur t (0,0))) (hk:Nat.min sLen dLen=k) (hn:cs.length=k*sz)
 (hsrc:∀ j v,cs[j]?=some v→w.cell? (a.add j)=some v) (hfit:o+cs.length≤cur.size) (h1:∀ v∈cs,v.oneCell'=true) :
 (Builtin.copy_ #[dT,sT] ty #[.slice (some ⟨g,o,none⟩) dLen dCap,.slice (some a) sLen sCap]).run P w=.ok (goInt k) (w.setRow g (Mem.splice cur o cs)):=by
 have hl:=run_loadCells_list (P:=P) w a cs hsrc
 have hst:=run_storeCells_at P g o t cs 0 cur w hg (by simpa using hfit) h1
 cases hq:P.info? elem with
 | none=>simp [hq] at hs
 | some i=>
  have hi:i.size=sz:=by simpa [hq] using hs
  rw [hn] at hl
  simp [Builtin.copy_,run_underlying hu,Builtin.lenOf,Builtin.firstCells,sizeOf,typeInfo,hq,hi,hk,hl,hst,Mem.splice]
theorem slrf_cells {w:World} {b o n c:Nat} {L:List RefV} (h:SlRf w (.slice (some ⟨b,o,none⟩) n c) L) (hn:n=L.length) (hw:∀ r∈L,r.Wf) (j:Nat) (v:Value) (hv:(refCs L)[j]?=some v):w.cell? ((⟨b,o,none⟩:Addr).add j)=some v:=by
 have hj:j < L.length*34:=by
  rw [←refCs_length L hw];exact (List.getElem?_eq_some_iff.1 hv).1
 have hi:j / 34 < L.length:=by omega
 have hk:j % 34 < 34:=by omega
 have he:j / 34*34+j % 34=j:=by omega
 have hg:=refCs_get L hw (j / 34) (j % 34) hi hk
 rw [he,hv] at hg
 have hc:=slrf_cell h hn (i:=j / 34) (by omega) (j % 34) v hg.symm
 rw [show o+j / 34*34+j % 34=o+j by omega] at hc
 by_cases hj0:j=0
 ·subst hj0;simpa [Addr.add] using hc
 ·simpa [Addr.add,hj0] using hc
theorem wpList_copy_rfn {P:Program} {ops:Array Oper} {rest:List Oper} {op:Oper} {a:Act} {w:World} {Q:Exit→Act→World→Prop} (hgd:op.guard=none) (x y:Operand) (dT sT:TypeId)
 (ho:op.op=.call { callee:=.builtin .copy,args:=#[x,y],argTypes:=#[dT,sT] }) (elem:TypeId) (hu:P.underlying dT=some (.slice elem)) (hs:(P.info? elem).map (·.size)=some 34)
 (B:Nat) (e:TypeId) (n g cap:Nat) (xs:List Value) (hown:w.ownsRow B e 34 (.slice (some ⟨g,0,none⟩) n cap) n xs) (hx:a.eval x=.slice (some ⟨g,0,none⟩) n cap)
 (sa:Option Addr) (m sc:Nat) (hy:a.eval y=.slice sa m sc) (L:List RefV) (hsl:SlRf w (.slice sa m sc) L) (hl:m=L.length) (hnm:n≤m) (h0:0 < n) (hw:∀ r∈L,r.Wf)
 (h:∀ w',w'.ownsRow B e 34 (.slice (some ⟨g,0,none⟩) n cap) n (refCs (L.take n))→w'.heap.size=w.heap.size→(∀ k,k≠g→w'.heap[k]?=w.heap[k]?)→(∀ B' w0,Below B' w0 w→B'≤g→Below B' w0 w')→wpList P ops Q rest (a.put op.dst (.int .i64 (n:Int))) w'):wpList P ops Q (op::rest) a w:=by
 have hwt:∀ r∈L.take n,r.Wf:=fun r hr=>hw r (List.mem_of_mem_take hr)
 have hlen:=refCs_length (L.take n) hwt
 have hlt:(L.take n).length=n:=by rw [List.length_take];omega
 rw [hlt] at hlen
 obtain ⟨b,o,ea,_,_⟩:=slrf_at (i:=0) hsl hl (by omega)
 subst ea
 have hpre:∀ j v,(refCs (L.take n))[j]?=some v→(refCs L)[j]?=some v:=fun j v hv=>by
  have hj:j < n*34:=by rw [←hlen];exact (List.getElem?_eq_some_iff.1 hv).1
  have h1:refCs L=refCs (L.take n)++refCs (L.drop n):=by
   unfold refCs
   rw [←List.flatMap_append,List.take_append_drop]
  rw [h1,List.getElem?_append_left (by omega)]
  exact hv
 rcases hown.2 with ⟨_,hz⟩ | ⟨g2,cap2,cur,hv,hg,hh,hn,hm,hsz,ht⟩
 ·omega
 ·injection hv with hv1 hv2 hv3
  injection hv1 with hv1
  injection hv1 with hv1
  subst hv1 hv3
  refine wpList_plain hgd fun K hK=>?_
  have hrun:=run_copy_big (P:=P) w dT sT op.type elem g 0 n cap ⟨b,o,none⟩ m sc cur e (refCs (L.take n)) 34 n hu hs hh (Nat.min_eq_right hnm) hlen (fun j v hv=>slrf_cells hsl hl hw j v (hpre j v hv)) (by rw [hlen,hsz];omega) (fun v hv=>by
   obtain ⟨r,_,hr2⟩:=List.mem_flatMap.1 hv
   exact refL_one r v hr2)
  unfold Oper.wp
  simp [execOp,ho,resolve,invoke,builtin,hx,hy,hrun,Result.andThen]
  refine hK _ _ (h _ ⟨hlen,.inr ⟨g,cap,Mem.splice cur 0 (refCs (L.take n)),rfl,hg,At.row (show At w g cur e from hh) _,hn,hm,?_,?_⟩⟩ (by simp) (fun k hk=>setRow_other w g k _ hk) (fun B' w0 hb hB=>below_row hb hB _))
  ·rw [←hsz]
   unfold Mem.splice
   simp [hlen]
   omega
  ·rw [splice_take cur 0 (n*34) (refCs (L.take n)) (by rw [hlen];omega) (by rw [hsz];exact Nat.mul_le_mul_right _ hn),hlen]
   simp
end Sha
end Go.Proofs.YtlhnegbjoncieaaGreatDoor
