/- My own texts, merged. -/
import Derived.Test.YtplmfmpbkjnbaaaGreatDoorBQ12
import Derived.Test.YtplmfmpbkjnbaaaGreatDoorBQ02
import Derived.Test.YtplmfmpbkjnbaaaGreatDoorBQ07
import Derived.Test.YtplmfmpbkjnbaaaGreatDoorBQ09
import Derived.Test.YtplmfmpbkjnbaaaGreatDoorBQ08
import Derived.WalkKit
import Derived.Lib.SmallJoins
set_option maxRecDepth 100000
set_option maxHeartbeats 4000000
namespace Go.Proofs.YtplmfmpbkjnbaaaGreatDoor
namespace Sha
open Go.RowKit Mem
theorem own_lit8 {w:World} {B:Nat} (x:BitVec 8) (hB:B≤w.heap.size):OwnB (w.alloc (.cells #[.int .u8 (B8 x)] 5)) B (.slice (some ⟨w.heap.size,0,none⟩) 1 1) [x]:=
 ⟨by simp [u8s],.inr ⟨w.heap.size,1,#[.int .u8 (B8 x)],rfl,hB,at_new w _ _,by simp,by simp [maxLen],by simp,by simp [u8s,B8]⟩⟩
theorem sl_dg {w:World} {bx:Nat} {r:RefV} {t:TypeId} (hA:At w bx (refC r) t) (h:r.Wf):Sl w (.slice (some ⟨bx,2,none⟩) 32 32) r.dg:=
 ⟨_,_,by rw [h.dg],by rw [h.dg];exact Nat.le_refl _,fun _=>⟨bx,2,rfl,hA.lt,fun i hi=>(hA.cell _).trans (ref_dg h i (by rw [h.dg] at hi;exact hi))⟩⟩
theorem B8_ofInt (p:BitVec 8) (z:Int) (h:p=BitVec.ofInt 8 z):B8 p=z % 256:=by
 show (p.toNat:Int)=z % 256
 rw [h,BitVec.toNat_ofInt]
 omega
theorem conv_i8 (z:Int) (w:World):(convert 3 5 (.int .i64 z)).run Tryz.prog w=.ok (.int .u8 (B8 (BitVec.ofInt 8 z))) w:=by
 have h2:IntKind.u8.wrap z=B8 (BitVec.ofInt 8 z):=by
  rw [IntKind.wrap_u8]
  show z % 256=((BitVec.ofInt 8 z).toNat:Int)
  rw [BitVec.toNat_ofInt]
  omega
 go_simp
structure LayInv (r:RefV) (M:Array Value) (g:Nat) (w:World) (j:Nat) (v:Value) (wr:World):Prop where
 o:OwnB wr (g+1) v ([BitVec.ofInt 8 r.pl]++(le4 r.ep).take j)
 a:At wr g M 25
 b:Below w.heap.size w wr
theorem le4_take (x:BitVec 32) (j:Nat) (h:j < 4):(le4 x).take (j+1)=(le4 x).take j++[wb x (8*j)]:=by
 match j,h with
 | 0,_=>rfl
 | 1,_=>rfl
 | 2,_=>rfl
 | 3,_=>rfl
theorem rlay_any (r:RefV) (hr:r.Wf) (w:World):Calls Tryz.prog 104 #[.agg (refC r)] w (RSEnd w (layRf r)):=by
 have rs:=refC_size hr
 have r0:=ref0 r
 have r1:=ref1 r
 have an:=at_new w (refC r) 25
 have bn:Below w.heap.size w (w.alloc (.cells (refC r) 25)):=(Below.refl _ _).alloc (Nat.le_refl _) _
 have cv:=fun wx=>conv_i8 r.pl wx
 have sd:=fun (wx:World) (g:Nat) (h:At wx g (refC r) 25)=>sl_dg h hr
 have hdl:=hr.dg
 obtain ⟨M,hM⟩:∃ M,M=refC r:=⟨_,rfl⟩
 rw [←hM] at rs r0 r1 an bn sd ⊢
 obtain ⟨ep,hep⟩:∃ ep,ep=r.ep:=⟨_,rfl⟩
 obtain ⟨pl,hpl⟩:∃ pl,pl=r.pl:=⟨_,rfl⟩
 rw [←hep] at r1
 rw [←hpl] at r0 cv
 obtain ⟨p,hp⟩:∃ p,p=BitVec.ofInt 8 pl:=⟨_,rfl⟩
 rw [←hp] at cv
 have CV:=zh cv;have AN:=zh an;have BN:=zh bn;have SD:=zh sd;have HP:=zh hp;have HEP:=zh hep;have HPL:=zh hpl;have DL:=zh hdl;have R1:=zh r1
 have ve0:=V_lo ep;have ve1:=V_hi ep
 have c0:(w.alloc (.cells M 25)).cell? ⟨w.heap.size,0,none⟩=some (.int .i64 pl):=(an.cell 0).trans r0
 clear rs r0 r1 an bn sd cv hM hep hpl hp hdl hr
 go_enter Tryz.func104,Tryz.ntmps104
 go_upto_region 1 with fail
 obtain ⟨g,hg⟩:∃ g,g=w.heap.size:=⟨_,rfl⟩
 have hgs:(w.alloc (.cells M 25)).heap.size=g+1:=by rw [hg];simp
 rw [←hg] at AN c0 ⊢
 have HG:=zh hg
 clear hg
 generalize w.alloc (.cells M 25)=w1 at *
 have I0:Hid (LayInv r M g w 0 (.slice (some ⟨w1.heap.size,0,none⟩) 1 1) (w1.alloc (.cells #[.int .u8 (pl % 256)] 5))):=zh ⟨by have h:=own_lit8 (w:=w1) (B:=g+1) p (by omega);rw [B8_ofInt p pl HP.out,HP.out] at h;rw [←HPL.out];simpa using h,AN.out.alloc _,BN.out.alloc BN.out.size _⟩
 clear hgs
 go_wp2_with fail
 go_loopw [3,4] (fun v i wr=>∃ j:Nat,j≤4∧i=.int .i64 j∧∃ v',v'=v∧LayInv r M g w j v' wr) (fun _ i _=>4 - (intOf i).toNat)
 case atStart=>exact ⟨0,by omega,rfl,_,rfl,I0.out⟩
 case round=>
  clear I0 c0
  obtain ⟨j,hj,rfl,v,rfl,hI⟩:=hrel
  by_cases hlt:j < 4
  ·have hlt':(j:Int) < 4:=by omega
   have c1:wr.cell? ⟨g,1,none⟩=some (.int .u32 (V ep)):=(hI.a.cell 1).trans R1.out
   have OW:Hid (OwnV wr (g+1) 5 v (u8s ([BitVec.ofInt 8 r.pl]++(le4 r.ep).take j))):=zh (ownB_V hI.o)
   have AA:=zh hI.a;have BB:=zh hI.b
   have LN:Hid (([BitVec.ofInt 8 r.pl]++(le4 r.ep).take j).length≤5):=zh (by simp [le4];omega)
   have GS:Hid (g+1≤wr.heap.size):=zh (by have:=hI.a.lt;omega)
   clear hI
   go_wp2_with (at_builtin;go_loud (refine wpList_append_lit zr _ _ 63 zr _ (.int .u8 0) 1 elemB8 zr zr OW.out zr zr (by rw [u8s_length];have:=LN.out;omega) (by rw [u8s_length];have:=LN.out;omega) GS.out ?_);intro v8 w8 ho8 hk8 hb8 _;have O8:=zh ho8;have K8:=zh hk8;have B8':=zh hb8;clear ho8 hk8 hb8)
   go_roundw
   case rel=>
    refine ⟨j+1,by omega,by go_num,v8,rfl,?_,?_,BB.out.trans (B8'.out.mono (by have:=BB.out.size;have:=GS.out;have:=HG.out;omega))⟩
    ·have h:=O8.out
     rw [wb_pow9,HEP.out] at h
     apply ownV_B
     rw [le4_take _ _ hlt,←List.append_assoc,u8s_snoc]
     exact h
    ·have hne:v.ownBlock≠some g:=fun e=>by have:=(World.ownsRow.lt OW.out g e).1;omega
     have h:=AA.out
     unfold At at *
     rw [K8.out g (by have:=GS.out;omega) hne];exact h
   case measure=>simp [intOf];omega
  ·have hj4:j=4:=by omega
   have hge:¬ (j:Int) < 4:=by omega
   subst hj4
   have OW:Hid (OwnB wr (g+1) v ([BitVec.ofInt 8 r.pl]++le4 r.ep)):=zh (by have h:=hI.o;rw [List.take_of_length_le (by simp [le4])] at h;exact h)
   have S2:=zh (SD.out wr g hI.a)
   have BB:=zh hI.b
   have GS:Hid (g+1≤wr.heap.size):=zh (by have:=hI.a.lt;omega)
   clear hI hlt hj
   go_wp2_with (first
    | (refine wpList_slice_arr zr 22 _ zr 32 5 g 2 zr Tryz.underlying22 infoB ?_)
    | (at_builtin;go_loud (refine wpList_append_bytes zr _ _ zr (g+1) v (.slice (some ⟨g,2,none⟩) 32 32) ([BitVec.ofInt 8 r.pl]++le4 r.ep) r.dg zr OW.out zr S2.out (by rw [DL.out];simp [le4]) GS.out ?_);intro v9 w9 ho9 _ hb9;have O9:=zh ho9;have B9:=zh hb9;clear ho9 hb9))
   go_ret
   exact ⟨_,rfl,O9.out.sl,BB.out.trans (B9.out.mono (by have:=HG.out;omega))⟩
def refCs (L:List RefV):List Value:=L.flatMap refL
theorem refL_length {r:RefV} (h:r.Wf):(refL r).length=34:=by simp [refL,u8s_length,h.dg]
theorem refCs_length (L:List RefV) (h:∀ r∈L,r.Wf):(refCs L).length=L.length*34:=by
 induction L with
 | nil=>rfl
 | cons r L ih=>
  unfold refCs at *
  rw [List.flatMap_cons,List.length_append,refL_length (h r (List.mem_cons_self ..)),ih (fun x hx=>h x (List.mem_cons_of_mem _ hx)),List.length_cons]
  omega
theorem refCs_snoc (L:List RefV) (r:RefV):refCs (L++[r])=refCs L++refL r:=by simp [refCs]
theorem refCs_get:∀ (L:List RefV),(∀ r∈L,r.Wf)→∀ i k,i < L.length→k < 34→(refCs L)[i*34+k]?=(refL (L.getD i zref))[k]?:=by
 intro L
 induction L with
 | nil=>intro _ i k hi _;simp at hi
 | cons r L ih=>
  intro h i k hi hk
  have hl:=refL_length (h r (List.mem_cons_self ..))
  unfold refCs
  rw [List.flatMap_cons]
  match i with
  | 0=>rw [Nat.zero_mul,Nat.zero_add,List.getElem?_append_left (by omega)];rfl
  | i+1=>
   rw [List.getElem?_append_right (by omega),hl,show (i+1)*34+k - 34=i*34+k by omega]
   exact ih (fun x hx=>h x (List.mem_cons_of_mem _ hx)) i k (by simpa using hi) hk
theorem getD_wf {L:List RefV} (h:∀ r∈L,r.Wf) (i:Nat):(L.getD i zref).Wf:=by
 rw [List.getD_eq_getElem?_getD]
 by_cases hi:i < L.length
 ·rw [List.getElem?_eq_getElem hi];exact h _ (List.getElem_mem hi)
 ·rw [List.getElem?_eq_none (by omega)];exact zref_wf
def SlRf (w:World) (v:Value) (L:List RefV):Prop:=
 ∃ a cap,v=.slice a L.length cap∧(L≠[]→∃ b o,a=some ⟨b,o,none⟩∧b < w.heap.size∧∀ i,i < L.length→w.rangeAt b (o+i*34) (refL (L.getD i zref)))
theorem SlRf.nil (w:World):SlRf w (.slice none 0 0) []:=⟨none,0,rfl,fun h=>absurd rfl h⟩
theorem SlRf.hd {w:World} {v:Value} {L:List RefV} (h:SlRf w v L):∃ a c,v=.slice a L.length c:=let ⟨a,c,e,_⟩:=h;⟨a,c,e⟩
theorem SlRf.hdn {w:World} {v:Value} {L:List RefV} {n:Nat} (h:SlRf w v L) (hn:L.length=n):∃ a c,v=.slice a n c:=let ⟨a,c,e⟩:=h.hd;⟨a,c,by rw [e,hn]⟩
theorem range_block {w wr:World} {b o:Nat} {cs:List Value} (h:w.rangeAt b o cs) (hb:wr.heap[b]?=w.heap[b]?):wr.rangeAt b o cs:=fun j v hv=>(World.cell?_of_block (w:=w) (w':=wr) (a:=⟨b,o+j,none⟩) hb).trans (h j v hv)
theorem SlRf.below {w wr:World} {v:Value} {L:List RefV} (h:SlRf w v L) (hb:Below w.heap.size w wr):SlRf wr v L:=by
 obtain ⟨a,cap,e,hr⟩:=h
 refine ⟨a,cap,e,fun hne=>?_⟩
 obtain ⟨b,o,ea,hlt,hc⟩:=hr hne
 exact ⟨b,o,ea,Nat.lt_of_lt_of_le hlt hb.size,fun i hi=>range_block (hc i hi) (hb.block b hlt)⟩
theorem slrf_at {w:World} {a:Option Addr} {n c i:Nat} {L:List RefV} (h:SlRf w (.slice a n c) L) (hn:n=L.length) (hi:i < n):∃ b o,a=some ⟨b,o,none⟩∧b < w.heap.size∧w.rangeAt b (o+i*34) (refL (L.getD i zref)):=by
 obtain ⟨a',c',e,hr⟩:=h
 obtain ⟨b,o,ea,hlt,hc⟩:=hr (by intro e0;subst e0;simp at hn;omega)
 injection e with e1 _ _
 subst e1
 exact ⟨b,o,ea,hlt,hc i (by omega)⟩
theorem slrf_cell {w:World} {b o n c i:Nat} {L:List RefV} (h:SlRf w (.slice (some ⟨b,o,none⟩) n c) L) (hn:n=L.length) (hi:i < n):w.rangeAt b (o+i*34) (refL (L.getD i zref)):=by
 obtain ⟨b',o',e,_,cx⟩:=slrf_at h hn hi
 injection e with e
 injection e with e2 e3 _
 subst e2 e3
 exact cx
theorem range_pl {w:World} {b o:Nat} {r:RefV} (h:w.rangeAt b o (refL r)):w.cell? ⟨b,o,none⟩=some (.int .i64 r.pl):=by
 have:=h 0 (.int .i64 r.pl) rfl
 simpa using this
abbrev OwnRf (w:World) (B:Nat) (t:TypeId) (v:Value) (L:List RefV):Prop:=w.ownsRow B t 34 v L.length (refCs L)
theorem own_slrf {w:World} {B:Nat} {t:TypeId} {v:Value} {L:List RefV} (h:OwnRf w B t v L) (hw:∀ r∈L,r.Wf):SlRf w v L:=by
 rcases h.2 with ⟨rfl,h0⟩ | ⟨g,cap,cur,rfl,_,hh,_,_,hs,ht⟩
 ·have:L=[]:=List.eq_nil_of_length_eq_zero h0
  subst this
  exact SlRf.nil w
 ·refine ⟨_,_,rfl,fun _=>⟨g,0,rfl,(Array.getElem?_eq_some_iff.1 hh).1,fun i hi j u hu=>?_⟩⟩
  have hj:j < 34:=by
   have:=(List.getElem?_eq_some_iff.1 hu).1
   rwa [refL_length (getD_wf hw i)] at this
  rw [cell_of_row w g _ cur _ (0,0) hh,Nat.zero_add]
  have h1:=refCs_get L hw i j hi hj
  rw [←ht,List.getElem?_take,if_pos (by omega),Array.getElem?_toList] at h1
  rw [h1];exact hu
theorem refL_one (r:RefV):∀ u∈refL r,u.oneCell'=true:=by
 intro u hm
 simp only [refL,List.mem_append,List.mem_cons,List.not_mem_nil,or_false] at hm
 rcases hm with (rfl | rfl) | hm
 all_goals first | rfl | exact u8s_cells _ _ hm
theorem rfRR:(Tryz.prog.info? 25).map (fun i=>(i.zero,i.size,i.bytes))=some (some (.agg (refC zref)),34,48):=by kernel_rfl
theorem rfRP:(Tryz.prog.info? 46).map (fun i=>(i.zero,i.size,i.bytes))=some (some (.agg (refC zref)),34,48):=by kernel_rfl
theorem elemRR:elemR Tryz.prog 85 25 (.agg (refC zref)) 34 48:=⟨Tryz.underlying85,rfRR⟩
theorem elemRP:elemR Tryz.prog 60 46 (.agg (refC zref)) 34 48:=⟨Tryz.underlying60,rfRP⟩
theorem built_rp (r:RefV) (hr:r.Wf):Tryz.prog.builtSlice 46 1 [(0,.agg (refC r))]=some (refC r):=by
 obtain ⟨p,e,dg⟩:=r
 have h:dg.length=32:=hr.dg
 match dg,h with
 | [a0,a1,a2,a3,a4,a5,a6,a7,a8,a9,a10,a11,a12,a13,a14,a15,a16,a17,a18,a19,a20,a21,a22,a23,a24,a25,a26,a27,a28,a29,a30,a31],_=>show Program.builtSlice _ _ _ _=some _;kernel_rfl
theorem rd_rf {w:World} {e:TypeId} {r:RefV} (hr:r.Wf):RdR (w.alloc (.cells (refC r) e)) 34 (.slice (some ⟨w.heap.size,0,none⟩) 1 1) 1 (refL r):=by
 have h:=rdR_new (w:=w) (e:=e) (C:=refC r)
 rw [refC_size hr] at h
 exact h
def slenN:Value→Nat
 | .slice _ n _=>n
 | _=>0
theorem own_slice {w:World} {B n:Nat} {v:Value} {l:Lb8} (h:OwnB w B v l) (hn:l.length=n):∃ a c,v=.slice a n c:=by
 rcases h.2 with ⟨rfl,h0⟩ | ⟨g,cap,cur,rfl,_⟩
 ·exact ⟨none,0,by rw [←hn,←h0]⟩
 ·exact ⟨_,_,by rw [hn]⟩
theorem ownB_v {w:World} {B:Nat} {v:Value} {l:Lb8} (h:OwnB w B v l):OwnV w B 5 v (u8s l):=by
 unfold OwnV
 rw [u8s_length]
 exact h
theorem ownV_b {w:World} {B:Nat} {v:Value} {l:Lb8} (h:OwnV w B 5 v (u8s l)):OwnB w B v l:=by
 unfold OwnV at h
 rw [u8s_length] at h
 exact h
end Sha
end Go.Proofs.YtplmfmpbkjnbaaaGreatDoor
namespace Go.Proofs.YtplmfmpbkjnbaaaGreatDoor
namespace Sha
open Go.RowKit Mem
set_option maxRecDepth 100000
theorem wpList_load_rf {P:Program} {ops:Array Oper} {rest:List Oper} {op:Oper} {a:Act} {w:World} {Q:Exit→Act→World→Prop} (hgd:op.guard=none) (ty:TypeId) (x:Operand) (ho:op.op=.load ty x) (b o:Nat) (hx:a.eval x=.pointer (some ⟨b,o,none⟩)) (r:RefV) (hr:r.Wf) (hc:w.rangeAt b o (refL r)) (d:TypeDesc) (hu:P.underlying ty=some d) (hd:d.isRow=true) (hi:(P.info? ty).map (·.size)=some 34)
 (h:wpList P ops Q rest (a.put op.dst (.agg (refC r))) w):wpList P ops Q (op::rest) a w:=
 wpList_load_mid hgd ty x ho b o hx (refL r) d hc hu hd (by rw [hi,refL_length hr]) h
theorem layN_few {L:List RefV} (h:L.length < 1∨6 < L.length):layN L=([],1):=by
 unfold layN
 exact if_pos (by rcases h with h | h;exact .inl h;exact .inr (.inl h))
theorem layN_place {L:List RefV} (i:Nat) (hi:i < L.length) (h:plOk (L.getD i zref)=false):layN L=([],1):=by
 unfold layN
 refine if_pos (.inr (.inr ?_))
 rw [List.all_eq_false]
 have e:L.getD i zref=L[i]:=by simp [List.getD_eq_getElem?_getD,hi]
 rw [e] at h
 exact ⟨L[i],List.getElem_mem hi,by rw [h];decide⟩
theorem layN_good {L:List RefV} (h1:1≤L.length) (h6:L.length≤6) (h:∀ i,i < L.length→plOk (L.getD i zref)=true):layN L=(bodyN L L.length++List.replicate (256 - (1+37*L.length)) 0,0):=by
 unfold layN
 refine if_neg (fun hc=>?_)
 rcases hc with hc | hc | hc
 ·omega
 ·omega
 ·rw [List.all_eq_false] at hc
  obtain ⟨r,hr,hp⟩:=hc
  obtain ⟨i,hi,rfl⟩:=List.getElem_of_mem hr
  have e:L.getD i zref=L[i]:=by simp [List.getD_eq_getElem?_getD,hi]
  exact hp (by rw [←e];exact h i hi)
theorem rlayN_few (L:List RefV) (v:Value) (w:World) (hv:SlRf w v L) (hl:L.length≤1000) (h:L.length < 1∨6 < L.length):Calls Tryz.prog 63 #[v] w (SealEnd w (layN L).1 (layN L).2):=by
 rw [layN_few h]
 obtain ⟨a,c,rfl⟩:=hv.hd
 obtain ⟨n,hn⟩:∃ n,n=L.length:=⟨_,rfl⟩
 rw [←hn] at h hl ⊢
 clear hv hn
 rcases h with h | h
 ·have h1:(n:Int) < 1:=by omega
  clear h
  go_enter Tryz.func63,Tryz.ntmps63
  go_wp2_with fail
  go_ret2
  exact ⟨_,rfl,sl_none _,Below.refl _ _⟩
 ·have h1:¬ (n:Int) < 1:=by omega
  have h2:(6:Int) < (n:Int):=by omega
  clear h
  go_enter Tryz.func63,Tryz.ntmps63
  go_wp2_with fail
  go_ret2
  exact ⟨_,rfl,sl_none _,Below.refl _ _⟩
theorem rlayN_many (L:List RefV) (v:Value) (w:World) (hv:SlRf w v L) (hw:∀ r∈L,r.Wf) (h1:1≤L.length) (h6:L.length≤6):Calls Tryz.prog 63 #[v] w (SealEnd w (layN L).1 (layN L).2):=by
 have hgood:=layN_good h1 h6
 have hbad:=fun i hi h=>layN_place (L:=L) i hi h
 obtain ⟨Y,hY⟩:∃ Y,Y=layN L:=⟨_,rfl⟩
 rw [←hY] at hgood hbad ⊢
 have hbs:=fun n h=>bodyN_succ L n h
 have hbl:=fun n h=>bodyN_length L n hw h
 have hgw:=fun i=>getD_wf hw i
 have hrl:=fun i wx=>rlay_any (L.getD i zref) (hgw i) wx
 have hrll:=fun i=>layRf_length (hgw i)
 obtain ⟨a,c,rfl⟩:=hv.hd
 obtain ⟨n,hn⟩:∃ n,n=L.length:=⟨_,rfl⟩
 have hb0:bodyN L 0=[BitVec.ofNat 8 n]:=by unfold bodyN;rw [hn];rfl
 have hB8:B8 (BitVec.ofNat 8 n)=(n:Int):=by show (((BitVec.ofNat 8 n).toNat:Nat):Int)=_;rw [BitVec.toNat_ofNat];omega
 have hlit:=own_lit8 (w:=w) (BitVec.ofNat 8 n) (Nat.le_refl _)
 rw [hB8,←hb0] at hlit
 rw [←hn] at hv h1 h6 hgood hbad hbs hbl ⊢
 have g1:¬ (n:Int) < 1:=by omega
 have g6:¬ (6:Int) < (n:Int):=by omega
 have HV:=zh hv;have GOOD:=zh hgood;have BAD:=zh hbad;have BS:=zh hbs;have BL:=zh hbl;have GW:=zh hgw;have RL:=zh hrl;have RLL:=zh hrll;have HN:=zh hn;have LIT:=zh hlit
 have B0:Hid (Below w.heap.size w (w.alloc (.cells #[.int .u8 (n:Int)] 5))):=zh ((Below.refl _ _).alloc (Nat.le_refl _) _)
 clear hv hgood hbad hbs hbl hgw hrl hrll hn hlit hY hw hb0 hB8
 go_enter Tryz.func63,Tryz.ntmps63
 go_wp2_with fail
 go_loopw [4,5] (fun vo vi wr=>∃ i:Nat,i≤n∧vi=.int .i64 (i:Int)∧OwnB wr w.heap.size vo (bodyN L i)∧(∀ k,k < i→plOk (L.getD k zref)=true)∧Below w.heap.size w wr) (fun _ vi _=>n - (intOf vi).toNat)
 case atStart=>exact ⟨0,by omega,rfl,LIT.out,fun k hk=>by omega,B0.out⟩
 case round=>
  obtain ⟨i,hi,rfl,ho,hpl,hbw⟩:=hrel
  have OW:=zh ho;have BW:=zh hbw;have PL:=zh hpl;have VW:=zh (HV.out.below hbw)
  clear ho hbw hpl
  by_cases hlt:i < n
  ·have hlt2:(i:Int) < (n:Int):=by omega
   obtain ⟨b,o,ea,_,hr⟩:=slrf_at (i:=i) VW.out HN.out hlt
   subst ea
   have cp:=range_pl hr
   have RG:=zh hr
   have hok:plOk (L.getD i zref)=decide (0≤(L.getD i zref).pl∧(L.getD i zref).pl≤1):=rfl
   have WFI:=zh (GW.out i);have RLI:=zh (RL.out i)
   have hrll:=RLL.out i
   have hbs:=BS.out i hlt
   have hbd:=BAD.out i hlt
   obtain ⟨r,hr0⟩:∃ r,r=L.getD i zref:=⟨_,rfl⟩
   have hgi:plOk r=true→∀ k,k < i+1→plOk (L.getD k zref)=true:=fun h k hk=>by
    rcases Nat.lt_or_ge k i with x | x
    ·exact PL.out k x
    ·rw [show k=i by omega,←hr0];exact h
   rw [←hr0] at cp hok RG WFI RLI hrll hbs hbd
   obtain ⟨pl,hp⟩:∃ pl,pl=r.pl:=⟨_,rfl⟩
   rw [←hp] at cp hok
   have HBS:=zh hbs;have HBD:=zh hbd;have HGI:=zh hgi;have HOK:=zh hok;have HRL:=zh hrll
   clear hr hok hrll hbs hbd hr0 hgi hp
   by_cases p0:pl < 0
   ·have hy:Y=([],1):=HBD.out (by rw [HOK.out];exact decide_eq_false (by omega))
    have HY:=zh hy
    clear hy
    go_wp2_with fail
    go_ret2
    exact ⟨_,by rw [HY.out];rfl,by rw [HY.out];exact sl_none _,BW.out⟩
   ·by_cases p1:1 < pl
    ·have hy:Y=([],1):=HBD.out (by rw [HOK.out];exact decide_eq_false (by omega))
     have HY:=zh hy
     clear hy
     go_wp2_with fail
     go_ret2
     exact ⟨_,by rw [HY.out];rfl,by rw [HY.out];exact sl_none _,BW.out⟩
    ·have hokt:plOk r=true:=by rw [HOK.out];exact decide_eq_true (by omega)
     have HG2:=zh (HGI.out hokt)
     have HLB:=zh (BL.out i (by omega))
     clear hokt
     go_wp2_with (refine wpList_load_rf zr 25 _ zr b (o+i*34) zr r WFI.out RG.out _ Tryz.underlying25 zr infoRfR ?_)
     refine (RLI.out wr).mono ?_
     rintro e w2 ⟨v2,rfl,hs2,hb2⟩
     have S2:=zh hs2;have B2:Hid (Below w.heap.size w w2):=zh (BW.out.trans (hb2.mono BW.out.size));have O2:=zh (ownsRow_below OW.out hb2)
     clear hs2 hb2 cp
     go_wp2_with (at_builtin;go_loud (refine wpList_append_bytes zr _ _ zr w.heap.size _ v2 (bodyN L i) (layRf r) zr O2.out zr S2.out (by rw [HLB.out,HRL.out];omega) B2.out.size ?_);intro v3 w3 ho3 _ hb3;have O3:Hid (OwnB w3 w.heap.size v3 (bodyN L (i+1))):=zh (by rw [HBS.out];exact ho3);have B3:Hid (Below w.heap.size w w3):=zh (B2.out.trans hb3);clear ho3 hb3)
     go_roundw
     case rel=>exact ⟨i+1,by omega,by go_num,O3.out,HG2.out,B3.out⟩
     case measure=>simp [intOf];omega
  ·have hin:i=n:=by omega
   subst hin
   have hy:=GOOD.out PL.out
   have HY:=zh hy
   have HLB:=zh (BL.out i (Nat.le_refl _))
   clear hy
   go_wp2_with fail
   obtain ⟨T,hT⟩:∃ T,T=256 - (1+37*i):=⟨_,rfl⟩
   have hT2:T+(1+37*i)=256:=by omega
   rw [←hT] at HY
   clear hT
   go_loopw [4] (fun vo wx=>∃ k:Nat,k≤T∧OwnB wx w.heap.size vo (bodyN L i++List.replicate k 0)∧Below w.heap.size w wx) (fun vo _=>256 - slenN vo)
   case atStart=>exact ⟨0,by omega,by rw [List.replicate_zero,List.append_nil];exact OW.out,BW.out⟩
   case round=>
    obtain ⟨k,hk,ho,hbx⟩:=hrel
    have hlen:(bodyN L i++List.replicate k (0:BitVec 8)).length=1+37*i+k:=by rw [List.length_append,HLB.out,List.length_replicate]
    obtain ⟨a5,c5,rfl⟩:=own_slice ho hlen
    have OX:=zh ho;have BX:=zh hbx;have HLEN:=zh hlen
    obtain ⟨m,hm⟩:∃ m,m=1+37*i+k:=⟨_,rfl⟩
    rw [←hm] at OX HLEN ⊢
    clear ho hbx hlen
    by_cases hlt2:m < 256
    ·have hlt3:(m:Int) < 256:=by omega
     have hkT:k+1≤T:=by omega
     have HM:=zh hm;have HKT:=zh hkT;have HT2:=zh hT2
     clear hm hkT hk
     go_wp2_with (at_builtin;go_loud (refine wpList_append_lit zr _ _ 63 zr (.int .u8 0) (.int .u8 0) 1 elemB8 zr zr (ownB_v OX.out) zr zr (by rw [u8s_length];have:=HLEN.out;omega) (by rw [u8s_length];have:=HLEN.out;omega) BX.out.size ?_);intro v8 w8 ho8 hk8 hb8 _;have O8:Hid (OwnB w8 w.heap.size v8 (bodyN L i++List.replicate (k+1) 0)):=zh (ownV_b (by rw [List.replicate_succ',←List.append_assoc,u8s_snoc];exact ho8));have B8':Hid (Below w.heap.size w w8):=zh (BX.out.trans hb8);clear ho8 hk8 hb8)
     obtain ⟨a8,c8,rfl⟩:=own_slice O8.out (n:=m+1) (by rw [List.length_append,HLB.out,List.length_replicate,HM.out];omega)
     go_roundw
     case rel=>exact ⟨k+1,HKT.out,O8.out,B8'.out⟩
     case measure=>simp [slenN];omega
    ·have hk2:k=T:=by omega
     have hge:¬ (m:Int) < 256:=by omega
     have OY:=OX.out
     rw [hk2] at OY
     have OZ:=zh OY
     clear OY hk2 hm hT2 hk hlt2
     go_wp2_with fail
     go_ret2
     exact ⟨_,by rw [HY.out];rfl,by rw [HY.out];exact OZ.out.sl,BX.out⟩
theorem rlayN_any (L:List RefV) (v:Value) (w:World) (hv:SlRf w v L) (hw:∀ r∈L,r.Wf) (hl:L.length≤1000):Calls Tryz.prog 63 #[v] w (SealEnd w (layN L).1 (layN L).2):=by
 by_cases h:L.length < 1∨6 < L.length
 ·exact rlayN_few L v w hv hl h
 ·exact rlayN_many L v w hv hw (by omega) (by omega)
end Sha
end Go.Proofs.YtplmfmpbkjnbaaaGreatDoor
namespace Go.Proofs.YtplmfmpbkjnbaaaGreatDoor
namespace Sha
open Go.RowKit Mem
theorem refCs_set:∀ (L:List RefV) (i:Nat) (r:RefV),(∀ x∈L,x.Wf)→i < L.length→refCs (L.set i r)=(refCs L).take (i*34)++refL r++(refCs L).drop (i*34+34):=by
 intro L
 induction L with
 | nil=>intro i r _ hi;simp at hi
 | cons x L ih=>
  intro i r h hi
  have hl:=refL_length (h x (List.mem_cons_self ..))
  match i with
  | 0=>
   show refL r++refCs L=([]++refL r)++(refL x++refCs L).drop (0*34+34)
   rw [List.nil_append,List.drop_append,List.drop_of_length_le (by omega),List.nil_append,hl]
   rfl
  | i+1=>
   have e:=ih i r (fun y hy=>h y (List.mem_cons_of_mem _ hy)) (by simpa using hi)
   show refL x++refCs (L.set i r)=(refL x++refCs L).take ((i+1)*34)++refL r++(refL x++refCs L).drop ((i+1)*34+34)
   have t1:(refL x++refCs L).take ((i+1)*34)=refL x++(refCs L).take (i*34):=by
    rw [List.take_append,hl,List.take_of_length_le (show (refL x).length≤(i+1)*34 by omega),show (i+1)*34 - 34=i*34 by omega]
   have d1:(refL x++refCs L).drop ((i+1)*34+34)=(refCs L).drop (i*34+34):=by
    rw [List.drop_append,hl,List.drop_of_length_le (show (refL x).length≤(i+1)*34+34 by omega),List.nil_append,show (i+1)*34+34 - 34=i*34+34 by omega]
   rw [e,t1,d1]
   simp [List.append_assoc]
theorem splice_take (C:Array Value) (o m:Nat) (D:List Value) (h:o+D.length≤m) (hm:m≤C.size):(Mem.splice C o D).toList.take m=(C.toList.take m).take o++D++(C.toList.take m).drop (o+D.length):=by
 have hs:C.toList.length=C.size:=by simp
 have hA:(C.toList.take o++D).length=o+D.length:=by rw [List.length_append,List.length_take,hs];omega
 unfold Mem.splice
 show (C.toList.take o++D++C.toList.drop (o+D.length)).take m=_
 rw [List.take_append,hA,List.take_of_length_le (by omega),List.drop_take,List.take_take,Nat.min_eq_left (by omega)]
theorem own_store {w:World} {B i:Nat} {t:TypeId} {v:Value} {L:List RefV} {r:RefV} (h:OwnRf w B t v L) (hw:∀ x∈L,x.Wf) (hr:r.Wf) (hi:i < L.length) :
 ∃ g cap cur,v=.slice (some ⟨g,0,none⟩) L.length cap∧B≤g∧g < w.heap.size∧At w g cur t∧i*34+34≤cur.size∧OwnRf (w.setRow g (Mem.splice cur (i*34) (refL r))) B t v (L.set i r):=by
 rcases h.2 with ⟨_,h0⟩ | ⟨g,cap,cur,rfl,hg,hh,hn,hm,hs,ht⟩
 ·omega
 have hrl:=refL_length hr
 have hle:i*34+34≤cur.size:=by rw [hs];omega
 refine ⟨g,cap,cur,rfl,hg,(Array.getElem?_eq_some_iff.1 hh).1,hh,hle,?_,?_⟩
 ·rw [refCs_length _ (fun x hx=>?_),List.length_set]
  rcases List.mem_or_eq_of_mem_set hx with a | a
  ·exact hw x a
  ·rw [a];exact hr
 ·refine .inr ⟨g,cap,Mem.splice cur (i*34) (refL r),?_,hg,At.row (show At w g cur t from hh) _,?_,hm,?_,?_⟩
  ·rw [List.length_set]
  ·rw [List.length_set];exact hn
  ·rw [←hs]
   unfold Mem.splice
   simp [hrl]
   omega
  ·rw [List.length_set,splice_take cur (i*34) (L.length*34) (refL r) (by rw [hrl];omega) (by rw [hs];omega),ht,hrl,refCs_set L i r hw hi]
def TwoOwn (w:World) (L:Lb8) (n:Int) (e:Ending) (w':World):Prop:=
 ∃ g,e=.returned (.tuple #[.slice (some ⟨g,0,none⟩) L.length L.length,.int .i64 n])∧At w' g (u8s L).toArray 5∧w.heap.size≤g∧Below w.heap.size w w'
theorem pnumput_own (b:Lb8) (n:Nat) (size:Int) (v:Value) (w:World) (hv:Sl w v b) (hb:b.length≤8000) (hn:n < 18446744073709551616) :
 Calls Tryz.prog 130 #[v,.int .u64 (n:Int),.int .i64 size] w (SEnd w (b++nbytes n (cutN size 1 8))):=by
 have hns:=fun wx=>numSize_any size wx
 have c1:=cutN_lo size 1 8 (by decide)
 have c8:=cutN_hi size 1 8
 obtain ⟨K,hK⟩:∃ K,K=cutN size 1 8:=⟨_,rfl⟩
 rw [←hK] at hns c1 c8 ⊢
 have hle:=lengthen_any b K v w (by omega) hv
 obtain ⟨a0,cap,rfl,_,_⟩:=hv
 obtain ⟨m,hm⟩:∃ m,m=b.length:=⟨_,rfl⟩
 have hlen:(b++List.replicate K 0).length=m+K:=by simp [hm]
 have hlen2:(b++nbytes n K).length=m+K:=by simp [hm,nbytes_length]
 have hpn:=fun g wx h=>putNum_any b n g m K K wx hm hn c1 c8 (Nat.le_refl _) h
 rw [←hm] at hle hb ⊢
 have NS:=zh hns;have LE:=zh hle;have HL:=zh hlen;have HL2:=zh hlen2;have PN:=zh hpn
 clear hns hle hlen hlen2 hpn hm hK
 go_enter Tryz.func130,Tryz.ntmps130
 go_wp2_with fail
 refine (NS.out _).mono ?_
 rintro o w' ⟨rfl,rfl⟩
 go_wp2_with fail
 refine LE.out.mono ?_
 rintro o w2 ⟨g,rfl,ha,hg,hb2⟩
 rw [HL.out]
 have HA:=zh ha;have HG:=zh hg;have HB:=zh hb2
 clear ha hg hb2 LE NS
 go_wp2_with (refine wpList_slice_low zr 63 _ _ zr 5 Tryz.underlying63 infoB (some ⟨g,0,none⟩) (m+K) (m+K) m zr zr (by omega) ?_;intro a1 h1;have e1:=h1 g 0 rfl (by omega);subst e1;clear h1;rw [Nat.add_sub_cancel_left,Nat.zero_add])
 refine (PN.out g w2 HA.out).mono ?_
 rintro o w3 ⟨rfl,ha3,hk3⟩
 have HA3:=zh ha3;have HB3:=zh (hk3 _ _ HB.out HG.out)
 clear ha3 hk3
 go_wp2_with fail
 go_ret
 exact ⟨g,by rw [HL2.out];rfl,HA3.out,HG.out,HB3.out⟩
theorem own_fulls {w:World} {B g:Nat} {L:Lb8} (h:At w g (u8s L).toArray 5) (hB:B≤g) (hl:L.length≤100000):OwnB w B (.slice (some ⟨g,0,none⟩) L.length L.length) L:=
 ⟨by simp [u8s_length],.inr ⟨g,L.length,(u8s L).toArray,rfl,hB,h,Nat.le_refl _,by simp [maxLen];omega,by simp [u8s_length],by rw [List.take_of_length_le (by simp [u8s_length])]⟩⟩
theorem num1_any (b:Lb8) (n:Nat) (v:Value) (w:World) (hv:Sl w v b) (hb:b.length≤8000) (hn:n < 18446744073709551616):Calls Tryz.prog 130 #[v,.int .u64 (n:Int),.int .i64 1] w (SEnd w (b++nbytes n 1)):=pnumput_own b n 1 v w hv hb hn
theorem num4_any (b:Lb8) (n:Nat) (v:Value) (w:World) (hv:Sl w v b) (hb:b.length≤8000) (hn:n < 18446744073709551616):Calls Tryz.prog 130 #[v,.int .u64 (n:Int),.int .i64 4] w (SEnd w (b++nbytes n 4)):=pnumput_own b n 4 v w hv hb hn
theorem nb1_int (z:Int) (m:Nat) (hm:(m:Int)=z % 18446744073709551616):nbytes m 1=[BitVec.ofInt 8 z]:=by
 have e:nbyte m 0=BitVec.ofInt 8 z:=by
  apply BitVec.eq_of_toNat_eq
  unfold nbyte
  rw [BitVec.toNat_ofNat,BitVec.toNat_ofInt]
  omega
 simp [nbytes,List.range_succ,e]
theorem nb4_le4 (x:BitVec 32):nbytes x.toNat 4=le4 x:=by
 have e:∀ i,nbyte x.toNat i=wb x (8*i):=fun i=>by
  apply BitVec.eq_of_toNat_eq
  unfold nbyte wb
  rw [BitVec.toNat_ofNat,BitVec.toNat_setWidth,BitVec.toNat_ushiftRight,Nat.shiftRight_eq_div_pow,Nat.pow_mul]
 simp [nbytes,le4,List.range_succ,e]
theorem conv_iu64 (z:Int) (m:Nat) (hm:(m:Int)=z % 18446744073709551616) (w:World):(convert 3 210 (.int .i64 z)).run Tryz.prog w=.ok (.int .u64 (m:Int)) w:=by
 have h2:IntKind.u64.wrap z=(m:Int):=by rw [IntKind.wrap_u64,hm]
 go_simp
theorem conv_u3264 (x:BitVec 32) (w:World):(convert 23 210 (.int .u32 (V x))).run Tryz.prog w=.ok (.int .u64 ((x.toNat:Nat):Int)) w:=by
 have hx:=x.isLt
 have h2:IntKind.u64.wrap (V x)=((x.toNat:Nat):Int):=by
  rw [IntKind.wrap_u64]
  show (x.toNat:Int) % _=_
  omega
 go_simp
theorem play9_any (r:RefV) (hr:r.Wf) (w:World):Calls Tryz.prog 132 #[.agg (refC r)] w (RSEnd w (layRf r)):=by
 have r0:=ref0 r
 have r1:=ref1 r
 have an:=at_new w (refC r) 46
 have bn:Below w.heap.size w (w.alloc (.cells (refC r) 46)):=(Below.refl _ _).alloc (Nat.le_refl _) _
 have sd:=fun (wx:World) (g:Nat) (h:At wx g (refC r) 46)=>sl_dg h hr
 have hdl:=hr.dg
 obtain ⟨m,hm⟩:∃ m:Nat,(m:Int)=r.pl % 18446744073709551616:=⟨(r.pl % 18446744073709551616).toNat,by omega⟩
 have hml:m < 18446744073709551616:=by omega
 have cv0:=fun wx=>conv_iu64 r.pl m hm wx
 have cv1:=fun wx=>conv_u3264 r.ep wx
 obtain ⟨M1,hM1⟩:∃ M,M=([]:Lb8)++nbytes m 1:=⟨_,rfl⟩
 have ln1:M1.length=1:=by rw [hM1,List.length_append,nbytes_length];rfl
 have nu1:∀ v wx,Sl wx v ([]:Lb8)→Calls Tryz.prog 130 #[v,.int .u64 (m:Int),.int .i64 1] wx (SEnd wx M1):=fun v wx hs=>by rw [hM1];exact num1_any _ _ v wx hs (by decide) hml
 obtain ⟨M2,hM2⟩:∃ M,M=M1++nbytes r.ep.toNat 4:=⟨_,rfl⟩
 have ln2:M2.length=5:=by rw [hM2,List.length_append,nbytes_length,ln1]
 have nu2:∀ v wx,Sl wx v M1→Calls Tryz.prog 130 #[v,.int .u64 ((r.ep.toNat:Nat):Int),.int .i64 4] wx (SEnd wx M2):=fun v wx hs=>by rw [hM2];exact num4_any _ _ v wx hs (by rw [ln1];decide) (by have:=r.ep.isLt;omega)
 have hlay:M2++r.dg=layRf r:=by rw [hM2,hM1,nb1_int r.pl m hm,nb4_le4,layRf,List.nil_append]
 obtain ⟨M,hM⟩:∃ M,M=refC r:=⟨_,rfl⟩
 rw [←hM] at r0 r1 an bn sd ⊢
 have c0:(w.alloc (.cells M 46)).cell? ⟨w.heap.size,0,none⟩=some (.int .i64 r.pl):=(an.cell 0).trans r0
 have AN:=zh an;have BN:=zh bn;have SD:=zh sd;have DL:=zh hdl;have CV0:=zh cv0;have CV1:=zh cv1;have LN1:=zh ln1;have NU1:=zh nu1;have LN2:=zh ln2;have NU2:=zh nu2;have HL:=zh hlay;have R1:=zh r1
 clear r0 r1 an bn sd hdl cv0 cv1 ln1 nu1 ln2 nu2 hlay hM hM1 hM2 hm hml hr
 obtain ⟨pl,hpl⟩:∃ pl,pl=r.pl:=⟨_,rfl⟩
 rw [←hpl] at c0 CV0
 obtain ⟨ep,hep⟩:∃ ep,ep=r.ep:=⟨_,rfl⟩
 rw [←hep] at R1 CV1 NU2
 clear hpl hep
 obtain ⟨e4,he4⟩:∃ e4,e4=ep.toNat:=⟨_,rfl⟩
 rw [←he4] at CV1 NU2
 clear he4
 go_enter Tryz.func132,Tryz.ntmps132
 go_upto_region 1 with fail
 obtain ⟨g0,hg0⟩:∃ g,g=w.heap.size:=⟨_,rfl⟩
 rw [←hg0] at AN c0 ⊢
 have HG:=zh hg0
 clear hg0
 generalize w.alloc (.cells M 46)=w1 at *
 go_wp2_with (refine wpList_conv zr _ _ _ _ (.int .u64 (m:Int)) zr zr CV0.out ?_)
 refine (NU1.out _ _ (sl_none _)).mono ?_
 rintro e w3 ⟨g,rfl,ha,hg,hb⟩
 have B3:Hid (Below w1.heap.size w1 w3):=zh hb
 have A3:=zh (AN.out.below hb AN.out.lt)
 have S3:=zh (at_sl ha rfl)
 rw [LN1.out]
 rw [LN1.out] at S3
 clear c0 ha hg hb
 have cc:w3.cell? ⟨g0,1,none⟩=some (.int .u32 (V ep)):=(A3.out.cell 1).trans R1.out
 go_wp2_with (refine wpList_conv zr _ _ _ _ (.int .u64 (e4:Int)) zr zr CV1.out ?_)
 refine (NU2.out _ _ S3.out).mono ?_
 rintro e w4 ⟨g4,rfl,ha,hg,hb⟩
 have B4:Hid (Below w1.heap.size w1 w4):=zh (B3.out.trans (hb.mono B3.out.size))
 have A4:=zh (A3.out.below hb A3.out.lt)
 have O4:Hid (OwnB w4 w1.heap.size (.slice (some ⟨g4,0,none⟩) 5 5) M2):=zh (by have h:=own_fulls ha (Nat.le_trans B3.out.size hg) (by rw [LN2.out];decide);rw [LN2.out] at h;exact h)
 rw [LN2.out]
 clear cc ha hg hb S3
 go_wp2_with (first
  | (refine wpList_slice_arr zr 22 _ zr 32 5 g0 2 zr Tryz.underlying22 infoB ?_)
  | (at_builtin;go_loud (refine wpList_append_bytes zr _ _ zr w1.heap.size (.slice (some ⟨g4,0,none⟩) 5 5) (.slice (some ⟨g0,2,none⟩) 32 32) M2 r.dg zr O4.out zr (SD.out w4 g0 A4.out) (by rw [LN2.out,DL.out];decide) B4.out.size ?_);intro v9 w9 ho9 _ hb9;have O9:=zh ho9;have B9:=zh (B4.out.trans hb9);clear ho9 hb9))
 go_ret
 exact ⟨_,rfl,by rw [←HL.out];exact O9.out.sl,BN.out.trans (B9.out.mono BN.out.size)⟩
theorem pfill_own (b:Lb8) (size:Nat) (v:Value) (w:World) (hv:Sl w v b) (hle:b.length≤size) (hs:size≤8000):Calls Tryz.prog 133 #[v,.int .i64 (size:Int)] w (TwoOwn w (fillB b size) 0):=by
 have hl:=lengthen_any b (size - b.length) v w (by omega) hv
 rw [show ((size - b.length:Nat):Int)=(size:Int) - (b.length:Int) by omega] at hl
 obtain ⟨a0,cap,rfl,_,_⟩:=hv
 obtain ⟨m,hm⟩:∃ m,m=b.length:=⟨_,rfl⟩
 unfold fillB
 rw [←hm] at hle hl ⊢
 have g1:¬ (size:Int) < (m:Int):=by omega
 have g2:¬ (2147483647:Int) < (size:Int):=by omega
 have LE:=zh hl
 clear hl hm
 go_enter Tryz.func133,Tryz.ntmps133
 go_wp2_with fail
 refine LE.out.mono ?_
 rintro o w2 ⟨g,rfl,ha,hg,hb2⟩
 have HA:=zh ha;have HB:=zh hb2;have HG:=zh hg
 clear ha hb2 hg LE
 go_wp2_with fail
 go_ret2
 exact ⟨g,by rw [List.length_append,List.length_replicate];rfl,HA.out,HG.out,HB.out⟩
end Sha
end Go.Proofs.YtplmfmpbkjnbaaaGreatDoor
namespace Go.Proofs.YtplmfmpbkjnbaaaGreatDoor
namespace Sha
open Go.ChangeShapes Go.WideShapes Go.ChangeAt Go.WideMaps Go.WideElems Go.RowKit Mem
set_option maxRecDepth 100000
theorem cW:Tryz.prog.cellsOf 23=1:=by kernel_rfl
theorem cI:Tryz.prog.cellsOf 3=1:=by kernel_rfl
theorem word_of {n:Int} (h:(Lit.int .u32 n).wf=true):∃ x:BitVec 32,n=V x:=by
 simp [Lit.wf,IntKind.min,IntKind.max,IntKind.signed,IntKind.bits] at h
 exact ⟨BitVec.ofNat 32 n.toNat,by show n=((BitVec.ofNat 32 n.toNat).toNat:Int);rw [BitVec.toNat_ofNat];omega⟩
theorem ref_of {H:Type} {enc:TypeId × Value→H} {W:World} {n:Nat} {cs:List Value} {y:DataW H × List MemPlace} (hf:DataW.trod enc Tryz.prog W 0 (fun _=>true) true n 25 cs=some y):∃ r:RefV,r.Wf∧cs=refL r:=by
 obtain ⟨_,_,_,_,hl,_,_⟩:=DataW.trod_struct Tryz.underlying25 hf
 rw [show Tryz.prog.cellsOf 25=34 by kernel_rfl] at hl
 obtain ⟨y0,y1,y2,m,_,_,h0,h1,h2⟩:=Deep.trod_struct3 Tryz.underlying25 hf
 have c32:Tryz.prog.cellsOf 22=32:=by kernel_rfl
 simp only at h0 h1 h2
 rw [cI] at h0;rw [cW] at h1;rw [c32] at h2
 obtain ⟨z0,ez0,_,wz0⟩:=DataW.trod_int Tryz.underlying3 h0
 obtain ⟨z1,ez1,_,wz1⟩:=DataW.trod_int Tryz.underlying23 h1
 obtain ⟨ep,rfl⟩:=word_of wz1
 obtain ⟨dg,ek,lk⟩:=open_bytes_in Tryz.underlying22 c32 h2
 simp [Lit.wf,IntKind.min,IntKind.max,IntKind.signed,IntKind.bits] at wz0
 refine ⟨⟨z0,ep,dg⟩,⟨by show _≤z0;omega,by show z0≤_;omega,lk⟩,?_⟩
 have d1:cs=cs.take 1++cs.drop 1:=(List.take_append_drop 1 _).symm
 have d2:cs.drop 1=(cs.drop 1).take 1++(cs.drop 1).drop 1:=(List.take_append_drop 1 _).symm
 have d4:(cs.drop 2).take 32=cs.drop 2:=List.take_of_length_le (by rw [List.length_drop];omega)
 rw [List.drop_drop] at d2
 rw [List.drop_zero] at ez0
 rw [d1,d2,←d4,ez0,ez1,ek];rfl
end Sha
end Go.Proofs.YtplmfmpbkjnbaaaGreatDoor
