/- My own texts, merged. -/
import Derived.Test.YtddjdaocdfkgeaaGreatDoorBQ00
import Derived.Test.YtddjdaocdfkgeaaGreatDoorBQ13
import Derived.Maps.AppendAt
import Derived.OwnWalk
import Derived.Test.YtddjdaocdfkgeaaGreatDoorBQ09
import Derived.Test.YtddjdaocdfkgeaaGreatDoorBQ01
import Derived.Deep.Matrix
namespace Go.Proofs.YtddjdaocdfkgeaaGreatDoor
namespace Sha
theorem adds_comm (l m:List (BitVec 32)):adds l m=adds m l:=by
 unfold adds
 exact List.zipWith_comm_of_comm (fun x y=>BitVec.add_comm x y)
theorem adds_assoc:∀ l m k:List (BitVec 32),adds (adds l m) k=adds l (adds m k)
 | [],_,_=>by simp [adds]
 | _::_,[],_=>by simp [adds]
 | _::_,_::_,[]=>by simp [adds]
 | x::l,y::m,z::k=>by
  have ih:=adds_assoc l m k
  unfold adds at ih ⊢
  simp only [List.zipWith_cons_cons,ih,BitVec.add_assoc]
theorem addB_comp (H:List (BitVec 32)) (T:Lb8):adds (addB H T) IVl=comp (adds H IVl) T:=by
 unfold addB comp
 rw [adds_comm IVl H,adds_comm H,adds_assoc]
def comps (s:List (BitVec 32)) (T:Lb8):Nat→List (BitVec 32)
 | 0=>s
 | i+1=>comp (comps s T i) ((T.drop (64*i)).take 64)
theorem lay_all (T c:Lb8) (h:T.length=c.length):lay T 0 c=c:=by simp [lay,h]
theorem feeds_comps (T:Lb8) (m:Nat) (hT:T.length=64*m):∀ i,i≤m →
 (feeds fed0 (T.take (64*i))).at'=0∧(feeds fed0 (T.take (64*i))).T.length=64∧adds (feeds fed0 (T.take (64*i))).H IVl=comps IVl T i
 | 0,_=>by
  rw [Nat.mul_zero,List.take_zero]
  exact ⟨rfl,by decide,by show adds (List.replicate 8 0) IVl=IVl;decide⟩
 | i+1,hi=>by
  obtain ⟨h0,h1,h2⟩:=feeds_comps T m hT i (by omega)
  have hc:((T.drop (64*i)).take 64).length=64:=by rw [List.length_take,List.length_drop];omega
  have e:T.take (64*(i+1))=T.take (64*i)++(T.drop (64*i)).take 64:=by rw [Nat.mul_add,List.take_add]
  rw [e,feeds_append,feeds_full _ _ h1 (by rw [h0];decide) (by rw [h0,hc])]
  refine ⟨rfl,by simp [zs64],?_⟩
  rw [h0,lay_all _ _ (by rw [h1,hc]),addB_comp,h2];rfl
theorem padded_mod (n:Nat):∃ m,n+(padBytes n).length=64*m:=by
 refine ⟨(n+(padBytes n).length) / 64,?_⟩
 rw [padBytes_length]
 unfold padQ
 split <;> omega
theorem digest_comps (b:Lb8) (m:Nat) (hm:(b++padBytes b.length).length=64*m):dRow (comps IVl (b++padBytes b.length) m) 8=digestOf b:=by
 have h:=(feeds_comps _ m hm m (Nat.le_refl m)).2.2
 rw [List.take_of_length_le (by omega),feeds_append] at h
 rw [←h];rfl
theorem word_sum (b0 b1 b2 b3:BitVec 8):(b0.toNat:Int)*16777216+(b1.toNat:Int)*65536+(b2.toNat:Int)*256+(b3.toNat:Int) =
 V (b0.setWidth 32 <<< 24 ||| b1.setWidth 32 <<< 16 ||| b2.setWidth 32 <<< 8 ||| b3.setWidth 32):=by
 have l0:=b0.isLt
 have l1:=b1.isLt
 have l2:=b2.isLt
 have l3:=b3.isLt
 have e (b:BitVec 8) (k:Nat) (hk:k≤24):(b.setWidth 32 <<< k).toNat=b.toNat <<< k:=by
  have lb:=b.isLt
  have hp:2 ^ k≤2 ^ 24:=Nat.pow_le_pow_right (by decide) hk
  rw [BitVec.toNat_shiftLeft,BitVec.toNat_setWidth,Nat.mod_eq_of_lt (Nat.lt_of_lt_of_le lb (by decide)),Nat.mod_eq_of_lt]
  rw [Nat.shiftLeft_eq]
  exact Nat.lt_of_lt_of_le (Nat.mul_lt_mul_of_lt_of_le lb hp (Nat.two_pow_pos _)) (by decide)
 have e3:(b3.setWidth 32).toNat=b3.toNat:=by rw [BitVec.toNat_setWidth];omega
 have h2:b2.toNat <<< 8 ||| b3.toNat=b2.toNat*256+b3.toNat:=by rw [←Nat.shiftLeft_add_eq_or_of_lt (by omega),Nat.shiftLeft_eq]
 have h1:b1.toNat <<< 16 ||| (b2.toNat*256+b3.toNat)=b1.toNat*65536+(b2.toNat*256+b3.toNat):=by rw [←Nat.shiftLeft_add_eq_or_of_lt (by omega),Nat.shiftLeft_eq]
 have h0:b0.toNat <<< 24 ||| (b1.toNat*65536+(b2.toNat*256+b3.toNat))=b0.toNat*16777216+(b1.toNat*65536+(b2.toNat*256+b3.toNat)):=by rw [←Nat.shiftLeft_add_eq_or_of_lt (by omega),Nat.shiftLeft_eq]
 unfold V
 rw [BitVec.toNat_or,BitVec.toNat_or,BitVec.toNat_or,e _ _ (by decide),e _ _ (by decide),e _ _ (by decide),e3,Nat.or_assoc,Nat.or_assoc,h2,h1,h0]
 omega
def sofar (b:Lb8) (t:Nat):List (BitVec 32):=if t≤16 then wds b t else ext (wds b 16) (t - 16)
theorem sofar_length (b:Lb8) (t:Nat):(sofar b t).length=t:=by
 unfold sofar
 split
 ·rw [wds_length]
 ·rw [ext_length,wds_length];omega
theorem sofar_word (b:Lb8) (t:Nat) (h:t < 16):sofar b (t+1)=sofar b t++[word b t]:=by
 unfold sofar
 rw [if_pos (by omega),if_pos (by omega)];rfl
theorem sofar_more (b:Lb8) (t:Nat) (h:16≤t):sofar b (t+1)=sofar b t++[nextW (sofar b t)]:=by
 have e:sofar b t=ext (wds b 16) (t - 16):=by
  unfold sofar
  split
  ·have:t=16:=by omega
   subst this;rfl
  ·rfl
 rw [e]
 unfold sofar
 rw [if_neg (by omega),show t+1 - 16=(t - 16)+1 by omega];rfl
theorem sofar_all (b:Lb8):sofar b 64=sched b:=rfl
end Sha
end Go.Proofs.YtddjdaocdfkgeaaGreatDoor
namespace Go.Proofs.YtddjdaocdfkgeaaGreatDoor
namespace Mem
open Go.RowKit
section
end
end Mem
end Go.Proofs.YtddjdaocdfkgeaaGreatDoor
namespace Go.Proofs.YtddjdaocdfkgeaaGreatDoor
namespace Sha
open Go.RowKit Mem
section
variable {P:Program}
theorem s0_val (x:BitVec 32):bits .xor .u32 (bits .xor .u32 (V (x.rotateRight 7)) (V (x.rotateRight 18))) ((V x).tdiv 8 % 4294967296)=V (s0 x):=by
 have h:(V x).tdiv 8 % (4294967296:Int)=V (x >>> 3):=by
  have:=V_lo (x >>> 3);have:=V_hi (x >>> 3)
  rw [Int.tdiv_eq_ediv_of_nonneg (V_lo x),shr3];omega
 rw [h,r_xor,r_xor];rfl
theorem s1_val (x:BitVec 32):bits .xor .u32 (bits .xor .u32 (V (x.rotateRight 17)) (V (x.rotateRight 19))) ((V x).tdiv 1024 % 4294967296)=V (s1 x):=by
 have h:(V x).tdiv 1024 % (4294967296:Int)=V (x >>> 10):=by
  have:=V_lo (x >>> 10);have:=V_hi (x >>> 10)
  rw [Int.tdiv_eq_ediv_of_nonneg (V_lo x),shr10];omega
 rw [h,r_xor,r_xor];rfl
end
end Sha
end Go.Proofs.YtddjdaocdfkgeaaGreatDoor
namespace Go.Proofs.YtddjdaocdfkgeaaGreatDoor
namespace Sha
open Go.RowKit Mem
theorem sls_lit1 {w:World} {v:Value} {l:Lb8} (h:Sl w v l):Sls (w.alloc (.cells #[v] 40)) (.slice (some ⟨w.heap.size,0,none⟩) 1 1) [l]:=by
 have hn:=at_new w #[v] 40
 refine ⟨_,_,rfl,Nat.le_refl _,fun _=>⟨_,_,rfl,hn.lt,fun i hi=>?_⟩⟩
 match i,hi with
 | 0,_=>exact ⟨v,by rw [hn.cell];rfl,h.below ((Below.refl _ _).alloc (Nat.le_refl _) _)⟩
def dgOf (l:Lb8):Array Value:=(u8s (digestOf l)).toArray
end Sha
end Go.Proofs.YtddjdaocdfkgeaaGreatDoor
namespace Go.Proofs.YtddjdaocdfkgeaaGreatDoor
namespace Sha
open Go.RowKit Mem
set_option maxRecDepth 100000
def tkC (L:List RefV) (n:Nat):Array Value:=(refCs L++[Value.int .i64 (n:Int)]).toArray
def pad6 (L:List RefV):List RefV:=L++List.replicate (6 - L.length) zref
theorem pad6_len {L:List RefV} (h:L.length≤6):(pad6 L).length=6:=by simp [pad6];omega
theorem pad6_wf {L:List RefV} (h:∀ r∈L,r.Wf):∀ r∈pad6 L,r.Wf:=by
 intro r hr
 rcases List.mem_append.1 hr with a | a
 ·exact h r a
 ·rw [(List.mem_replicate.1 a).2];exact zref_wf
theorem pad6_take (L:List RefV):(pad6 L).take L.length=L:=by simp [pad6]
theorem pad6_next {L:List RefV} (r:RefV) (h:L.length < 6):(pad6 L).set L.length r=pad6 (L++[r]):=by
 unfold pad6
 rw [List.set_append_right _ _ (Nat.le_refl _),Nat.sub_self,List.length_append,List.append_assoc]
 congr 1
 obtain ⟨k,hk⟩:∃ k,6 - L.length=k+1:=⟨6 - L.length - 1,by omega⟩
 rw [hk,List.replicate_succ,List.set_cons_zero]
 simp
 omega
section
variable {L:List RefV} {n:Nat}
theorem tkC_size (hw:∀ r∈L,r.Wf) (hl:L.length=6):(tkC L n).size=205:=by simp [tkC,refCs_length L hw,hl]
theorem tkC_many (hw:∀ r∈L,r.Wf) (hl:L.length=6):(tkC L n)[204]?=some (.int .i64 (n:Int)):=by
 have h:=refCs_length L hw
 rw [hl] at h
 simp [tkC,h]
theorem tkC_one:(tkC L n).all (·.oneCell')=true:=by
 rw [Array.all_eq_true]
 intro i hi
 have hm:(tkC L n)[i]∈refCs L++[Value.int .i64 (n:Int)]:=by
  simp [tkC]
 rcases List.mem_append.1 hm with h | h
 ·obtain ⟨r,_,hr⟩:=List.mem_flatMap.1 h
  exact refL_one r _ hr
 ·rw [List.mem_singleton.1 h];rfl
theorem tkC_set {r:RefV} {i:Nat} (hw:∀ r∈L,r.Wf) (hl:L.length=6) (hr:r.Wf) (hi:i < 6):Mem.splice (tkC L n) (i*34) (refL r)=tkC (L.set i r) n:=by
 have h:=refCs_length L hw
 rw [hl] at h
 have hrl:=refL_length hr
 unfold Mem.splice tkC
 rw [refCs_set L i r hw (by omega),List.take_append_of_le_length (by omega),hrl,List.drop_append_of_le_length (by omega)]
 simp [List.append_assoc]
theorem tk_range {w:World} {b i:Nat} {t:TypeId} (h:At w b (tkC L n) t) (hw:∀ r∈L,r.Wf) (hl:L.length=6) (hi:i < 6):w.rangeAt b (i*34) (refL (L.getD i zref)):=by
 intro j v hv
 have hj:j < 34:=by
  have:=(List.getElem?_eq_some_iff.1 hv).1
  rwa [refL_length (getD_wf hw i)] at this
 have hlen:=refCs_length L hw
 rw [h.cell,tkC,List.getElem?_toArray,List.getElem?_append_left (by omega),refCs_get L hw i j (by omega) hj]
 exact hv
theorem tk_sl {w:World} {b m c:Nat} {t:TypeId} (h:At w b (tkC L n) t) (hw:∀ r∈L,r.Wf) (hl:L.length=6) (hm:m≤6):SlRf w (.slice (some ⟨b,0,none⟩) m c) (L.take m):=by
 have e:(L.take m).length=m:=by rw [List.length_take];omega
 refine ⟨some ⟨b,0,none⟩,c,by rw [e],fun _=>⟨b,0,rfl,h.lt,fun i hi=>?_⟩⟩
 rw [e] at hi
 have g:(L.take m).getD i zref=L.getD i zref:=by simp [List.getD_eq_getElem?_getD,hi]
 rw [g,Nat.zero_add]
 exact tk_range h hw hl (by omega)
end
theorem zeroTk (w:World):(zeroValue 136).run Tryz.prog w=.ok (.agg (tkC (pad6 []) 0)) w:=by kernel_rfl
theorem buildTk0 (w:World):(Instr.build 136 #[]).run Tryz.prog w=.ok (.agg (tkC (pad6 []) 0)) w:=run_build w _ _ _ (by kernel_rfl)
theorem buildTk1 (n:Nat) (w:World):(Instr.build 136 #[(1,.int .i64 (n:Int))]).run Tryz.prog w=.ok (.agg (tkC (pad6 []) n)) w:=run_build w _ _ _ (by kernel_rfl)
theorem infoTk:(Tryz.prog.info? 136).map (·.size)=some 205:=by kernel_rfl
theorem wpList_cut_all {P:Program} {ops:Array Oper} {rest:List Oper} {op:Oper} {a:Act} {w:World} {Q:Exit→Act→World→Prop} (hgd:op.guard=none) (ty:TypeId) (x:Operand) (ho:op.op=.slice ty x none none none)
 (n:Nat) (elem:TypeId) (hu:P.underlying ty=some (.array n elem)) (z:Nat) (hs:(P.info? elem).map (·.size)=some z) (b o:Nat) (hx:a.eval x=.pointer (some ⟨b,o,none⟩))
 (h:wpList P ops Q rest (a.put op.dst (.slice (some ⟨b,o,none⟩) n n)) w):wpList P ops Q (op::rest) a w:=by
 refine wpList_plain hgd fun K hK=>?_
 cases hq:P.info? elem with
 | none=>simp [hq] at hs
 | some q=>
  have hat:(Instr.sliceAt ty (.pointer (some ⟨b,o,none⟩)) none none none).run P w=.ok (.slice (some ⟨b,o,none⟩) n n) w:=by
   simp [Instr.sliceAt,Instr.sureAddr,Instr.sliceBounds,Sem.run_bind,run_underlying hu,sizeOf,typeInfo,hq,Addr.add_mid]
  unfold Oper.wp execOp
  simp only [ho,hx,Option.map_none,Sem.run_bind,hat,Result.andThen_ok,Sem.run_pure]
  exact hK _ _ h
end Sha
end Go.Proofs.YtddjdaocdfkgeaaGreatDoor
namespace Go.Proofs.YtddjdaocdfkgeaaGreatDoor
namespace Sha
open Go.RowKit Mem
set_option maxRecDepth 100000
theorem run_copy_big {P:Program} (w:World) (dT sT ty elem:TypeId) (g o dLen dCap:Nat) (a:Addr) (sLen sCap:Nat) (cur:Array Value) (t:TypeId) (cs:List Value) (sz k:Nat)
 (hu:P.underlying dT=some (.slice elem)) (hs:(P.info? elem).map (·.size)=some sz)
 (hg:w.heap[g]?=some (.cells cur t (0,0))) (hk:Nat.min sLen dLen=k) (hn:cs.length=k*sz)
 (hsrc:∀ j v,cs[j]?=some v→w.cell? (a.add j)=some v) (hfit:o+cs.length≤cur.size) (h1:∀ v∈cs,v.oneCell'=true) :
 (Builtin.copy_ #[dT,sT] ty #[.slice (some ⟨g,o,none⟩) dLen dCap,.slice (some a) sLen sCap]).run P w=.ok (goInt k) (w.setRow g (Mem.splice cur o cs)):=by
 have hl:=run_loadCells_list (P:=P) w a cs hsrc
 have hst:=run_storeCells_at P g o t cs 0 cur w hg (by simpa using hfit) h1
 cases hq:P.info? elem with
 | none=>simp [hq] at hs
 | some i=>
  have hi:i.size=sz:=by simpa [hq] using hs
  rw [hn] at hl
  simp [Builtin.copy_,run_underlying hu,Builtin.lenOf,Builtin.firstCells,sizeOf,typeInfo,hq,hi,hk,hl,hst,Mem.splice]
theorem slrf_cells {w:World} {b o n c:Nat} {L:List RefV} (h:SlRf w (.slice (some ⟨b,o,none⟩) n c) L) (hn:n=L.length) (hw:∀ r∈L,r.Wf) (j:Nat) (v:Value) (hv:(refCs L)[j]?=some v):w.cell? ((⟨b,o,none⟩:Addr).add j)=some v:=by
 have hj:j < L.length*34:=by
  rw [←refCs_length L hw];exact (List.getElem?_eq_some_iff.1 hv).1
 have hi:j / 34 < L.length:=by omega
 have hk:j % 34 < 34:=by omega
 have he:j / 34*34+j % 34=j:=by omega
 have hg:=refCs_get L hw (j / 34) (j % 34) hi hk
 rw [he,hv] at hg
 have hc:=slrf_cell h hn (i:=j / 34) (by omega) (j % 34) v hg.symm
 rw [show o+j / 34*34+j % 34=o+j by omega] at hc
 by_cases hj0:j=0
 ·subst hj0;simpa [Addr.add] using hc
 ·simpa [Addr.add,hj0] using hc
theorem wpList_copy_rfn {P:Program} {ops:Array Oper} {rest:List Oper} {op:Oper} {a:Act} {w:World} {Q:Exit→Act→World→Prop} (hgd:op.guard=none) (x y:Operand) (dT sT:TypeId)
 (ho:op.op=.call { callee:=.builtin .copy,args:=#[x,y],argTypes:=#[dT,sT] }) (elem:TypeId) (hu:P.underlying dT=some (.slice elem)) (hs:(P.info? elem).map (·.size)=some 34)
 (B:Nat) (e:TypeId) (n g cap:Nat) (xs:List Value) (hown:w.ownsRow B e 34 (.slice (some ⟨g,0,none⟩) n cap) n xs) (hx:a.eval x=.slice (some ⟨g,0,none⟩) n cap)
 (sa:Option Addr) (m sc:Nat) (hy:a.eval y=.slice sa m sc) (L:List RefV) (hsl:SlRf w (.slice sa m sc) L) (hl:m=L.length) (hnm:n≤m) (h0:0 < n) (hw:∀ r∈L,r.Wf)
 (h:∀ w',w'.ownsRow B e 34 (.slice (some ⟨g,0,none⟩) n cap) n (refCs (L.take n))→w'.heap.size=w.heap.size→(∀ k,k≠g→w'.heap[k]?=w.heap[k]?)→(∀ B' w0,Below B' w0 w→B'≤g→Below B' w0 w')→wpList P ops Q rest (a.put op.dst (.int .i64 (n:Int))) w'):wpList P ops Q (op::rest) a w:=by
 have hwt:∀ r∈L.take n,r.Wf:=fun r hr=>hw r (List.mem_of_mem_take hr)
 have hlen:=refCs_length (L.take n) hwt
 have hlt:(L.take n).length=n:=by rw [List.length_take];omega
 rw [hlt] at hlen
 obtain ⟨b,o,ea,_,_⟩:=slrf_at (i:=0) hsl hl (by omega)
 subst ea
 have hpre:∀ j v,(refCs (L.take n))[j]?=some v→(refCs L)[j]?=some v:=fun j v hv=>by
  have hj:j < n*34:=by rw [←hlen];exact (List.getElem?_eq_some_iff.1 hv).1
  have h1:refCs L=refCs (L.take n)++refCs (L.drop n):=by
   unfold refCs
   rw [←List.flatMap_append,List.take_append_drop]
  rw [h1,List.getElem?_append_left (by omega)]
  exact hv
 rcases hown.2 with ⟨_,hz⟩ | ⟨g2,cap2,cur,hv,hg,hh,hn,hm,hsz,ht⟩
 ·omega
 ·injection hv with hv1 hv2 hv3
  injection hv1 with hv1
  injection hv1 with hv1
  subst hv1 hv3
  refine wpList_plain hgd fun K hK=>?_
  have hrun:=run_copy_big (P:=P) w dT sT op.type elem g 0 n cap ⟨b,o,none⟩ m sc cur e (refCs (L.take n)) 34 n hu hs hh (Nat.min_eq_right hnm) hlen (fun j v hv=>slrf_cells hsl hl hw j v (hpre j v hv)) (by rw [hlen,hsz];omega) (fun v hv=>by
   obtain ⟨r,_,hr2⟩:=List.mem_flatMap.1 hv
   exact refL_one r v hr2)
  unfold Oper.wp
  simp [execOp,ho,resolve,invoke,builtin,hx,hy,hrun,Result.andThen]
  refine hK _ _ (h _ ⟨hlen,.inr ⟨g,cap,Mem.splice cur 0 (refCs (L.take n)),rfl,hg,At.row (show At w g cur e from hh) _,hn,hm,?_,?_⟩⟩ (by simp) (fun k hk=>setRow_other w g k _ hk) (fun B' w0 hb hB=>below_row hb hB _))
  ·rw [←hsz]
   unfold Mem.splice
   simp [hlen]
   omega
  ·rw [splice_take cur 0 (n*34) (refCs (L.take n)) (by rw [hlen];omega) (by rw [hsz];exact Nat.mul_le_mul_right _ hn),hlen]
   simp
end Sha
end Go.Proofs.YtddjdaocdfkgeaaGreatDoor
namespace Go.Proofs.YtddjdaocdfkgeaaGreatDoor
namespace Sha
open Go.ChangeShapes Go.WideShapes Go.ChangeAt Go.WideMaps Go.WideElems Go.RowKit Mem
set_option maxRecDepth 100000
theorem open_sls {H:Type} {enc:TypeId × Value→H} {W:World} {base:Nat} {v:Value} {d:DataW H} {p:List MemPlace} (hval:Value.okWide Tryz.prog W .any base 22 v) (h:DataW.Trod enc Tryz.prog W 0 (fun _=>true) true 22 v d p) :
 ∃ ps,Sls W v ps∧ps.length≤9223372036854775807∧∀ i,i < ps.length→(ps.getD i []).length≤9223372036854775807:=by
 obtain ⟨a0,len,cap,rfl⟩:=okWide_slice Tryz.underlying22 hval
 obtain ⟨fuel,hf⟩:=h
 rcases Deep.open_int_rows Tryz.underlying22 Tryz.underlying40 Tryz.underlying5 cS cB hf with ⟨hcs,_⟩ | ⟨a,len',cap',A,L,C,Z,hcs,_,hl,hm,_,hr⟩
 ·simp [Value.cells] at hcs
  obtain ⟨rfl,rfl,rfl⟩:=hcs
  exact ⟨[],⟨none,0,rfl,by simp,fun h=>absurd rfl h⟩,by simp,by simp⟩
 ·simp [Value.cells] at hcs
  obtain ⟨rfl,rfl,rfl⟩:=hcs
  have each:∀ r,r < cap→∃ l,Sl W (.slice (A r) (L r) (C r)) l∧l.length=L r:=fun r hr'=>by
   obtain ⟨_,h1,h2,h3,h4,h5,h6⟩:=hr r hr'
   cases hA:A r with
   | none=>
    have:=h5 hA
    have hL:L r=0:=by omega
    rw [hL]
    exact ⟨[],sl_nil _ _,rfl⟩
   | some a'=>exact sl_of (C r) h1 (by rw [h3];exact h1) (fun i hi=>(h6 a' hA).2 i (by rw [←h3];exact hi)) h4
  obtain ⟨f,hff⟩:=Deep.choose_lt each
  have hlen:((List.range len).map f).length=len:=by simp
  have hget:∀ i,i < len→((List.range len).map f).getD i []=f i:=fun i hi=>by simp [List.getD_eq_getElem?_getD,hi]
  unfold maxLen at hm
  refine ⟨(List.range len).map f,⟨some a,cap,by rw [hlen],by rw [hlen];exact hl,fun hne=>?_⟩,by rw [hlen];omega,fun i hi=>?_⟩
  ·have hp:0 < len:=by
    rcases Nat.eq_zero_or_pos len with h | h
    ·subst h;simp at hne
    ·exact h
   have h0:=(hr 0 (by omega)).1
   obtain ⟨b,o,ln⟩:=a
   have hsp:ln=none:=by simpa [Addr.add] using World.cell?_spot h0
   subst hsp
   refine ⟨b,o,rfl,?_,fun i hi=>?_⟩
   ·rw [Addr.add_mid] at h0
    exact block_lt_of_cell h0
   ·rw [hlen] at hi
    have h1:=(hr i (by omega)).1
    rw [Addr.add_mid] at h1
    exact ⟨_,h1,by rw [hget i hi];exact (hff i (by omega)).1⟩
  ·rw [hlen] at hi
   obtain ⟨_,h1,h2,_⟩:=hr i (by omega)
   unfold maxLen at h2
   rw [hget i hi,(hff i (by omega)).2]
   omega
end Sha
end Go.Proofs.YtddjdaocdfkgeaaGreatDoor
