/- My own texts, merged. -/
import Derived.Test.YtplmfmpbkjnbaaaGreatDoorChecked
import Derived.Test.YtplmfmpbkjnbaaaGreatDoorBQ00
import Derived.WalkSpells
import Derived.WalkLawsBesides
import Derived.Lib.Hide
import Derived.Deep.QuietTactic
import Derived.BigQuiet
import Derived.Deep.MidRow
import Derived.Deep.DeepFit
import Derived.Test.YtplmfmpbkjnbaaaGreatDoorRows
import Derived.ProofKit
import Derived.LaidMore
import Derived.LaidHandle
import Derived.OpenShut
import Derived.Stop.Joined
import Derived.Lib.LaidTab
import Derived.MakeChecks
import Derived.SevenTiedAt
import Derived.Carry
import Derived.ChangeOld
import Derived.Deep.Matrix
import Derived.Deep.Strs
import Derived.Lib.SmallJoins
namespace Go.Proofs.YtplmfmpbkjnbaaaGreatDoor
namespace Sha
open Go.RowKit Mem
theorem at_keep {w w':World} {b c:Nat} {C:Array Value} {t:TypeId} (h:At w c C t) (o:∀ k,k≠b→w'.heap[k]?=w.heap[k]?) (hne:c≠b):At w' c C t:=by
 unfold At at *;rw [o c hne];exact h
theorem At.app {w w':World} {b:Nat} {C:Array Value} {t:TypeId} {v:Value} (h:At w b C t) (hk:∀ k,k < w.heap.size→v.ownBlock≠some k→w'.heap[k]?=w.heap[k]?) (hne:v.ownBlock≠some b):At w' b C t:=by
 have hl:=h.lt
 unfold At at *
 rw [hk b hl hne];exact h
theorem But.over {b c:Nat} {w w' w2:World} (h:But b w w') (k:But c w' w2) (hc:w.heap.size≤c):But b w w2:=
 ⟨Nat.le_trans h.size k.size,fun j hj hne=>(k.block j (Nat.lt_of_lt_of_le hj h.size) (by omega)).trans (h.block j hj hne)⟩
theorem But.same {b:Nat} {w w' w2:World} (h:But b w w') (k:But b w' w2):But b w w2:=
 ⟨Nat.le_trans h.size k.size,fun j hj hne=>(k.block j (Nat.lt_of_lt_of_le hj h.size) hne).trans (h.block j hj hne)⟩
def Sl (w:World) (v:Value) (l:Lb8):Prop:=
 ∃ a cap,v=.slice a l.length cap∧l.length≤cap∧(l≠[]→∃ bb oo,a=some ⟨bb,oo,none⟩∧bb < w.heap.size∧∀ i,i < l.length→w.cell? ⟨bb,oo+i,none⟩=some (.int .u8 ((l.getD i 0).toNat:Int)))
theorem infoB:(Tryz.prog.info? 5).map (·.size)=some 1:=by kernel_rfl
theorem sl_drop {w:World} {bb oo m cap k:Nat} {a1:Option Addr} {rest:Lb8} (hm:m=rest.length) (hk:k≤m) (hcap:m≤cap) (hbb:bb < w.heap.size)
 (hc:∀ i,i < rest.length→w.cell? ⟨bb,oo+i,none⟩=some (.int .u8 ((rest.getD i 0).toNat:Int)))
 (ha:∀ bb' oo',some (⟨bb,oo,none⟩:Addr)=some ⟨bb',oo',none⟩→k < cap→a1=some ⟨bb',oo'+k,none⟩):Sl w (.slice a1 (m - k) (cap - k)) (rest.drop k):=by
 refine ⟨a1,cap - k,by rw [List.length_drop,hm],by rw [List.length_drop];omega,fun hne=>?_⟩
 have hlt:k < m:=by
  rcases Nat.lt_or_ge k m with h | h
  ·exact h
  ·exact absurd (List.drop_of_length_le (by omega)) hne
 refine ⟨bb,oo+k,ha bb oo rfl (by omega),hbb,fun i hi=>?_⟩
 rw [List.length_drop] at hi
 have:=hc (k+i) (by omega)
 rw [←Nat.add_assoc] at this
 rw [this]
 simp [List.getD_eq_getElem?_getD,List.getElem?_drop]
theorem Sl.below {w wr:World} {v:Value} {l:Lb8} (h:Sl w v l) (hb:Below w.heap.size w wr):Sl wr v l:=by
 obtain ⟨a,cap,e,hc,hr⟩:=h
 refine ⟨a,cap,e,hc,fun hne=>?_⟩
 obtain ⟨bb,oo,ea,hlt,hcell⟩:=hr hne
 exact ⟨bb,oo,ea,Nat.lt_of_lt_of_le hlt hb.size,fun i hi=>by rw [hb.cell (p:=⟨bb,oo+i,none⟩) hlt];exact hcell i hi⟩
def OwnB (w:World) (B:Nat) (v:Value) (l:Lb8):Prop:=w.ownsRow B 5 1 v l.length (u8s l)
theorem infoU8:(Tryz.prog.info? 5).map (fun i=>(i.zero,i.size,i.bytes))=some (some (.int .u8 0),1,1):=by kernel_rfl
theorem OwnB.nil (w:World) (B:Nat):OwnB w B (.slice none 0 0) []:=World.ownsRow_nil w B _ 1
theorem OwnB.open {w:World} {B:Nat} {v:Value} {l:Lb8} (h:OwnB w B v l):∃ a cap,v=.slice a l.length cap∧l.length≤cap ∧
 (l≠[]→∃ g,a=some ⟨g,0,none⟩∧B≤g∧g < w.heap.size∧∀ i,i < l.length→w.cell? ⟨g,i,none⟩=some (.int .u8 ((l.getD i 0).toNat:Int))):=by
 obtain ⟨_,h | ⟨g,cap,cur,rfl,hg,hh,hn,hc,hs,ht⟩⟩:=h
 ·obtain ⟨rfl,h0⟩:=h
  exact ⟨none,0,by rw [h0],by omega,fun hne=>absurd (List.eq_nil_of_length_eq_zero h0) hne⟩
 ·refine ⟨_,cap,rfl,hn,fun _=>⟨g,rfl,hg,(Array.getElem?_eq_some_iff.1 hh).1,fun i hi=>?_⟩⟩
  rw [cell_of_row w g i cur _ (0,0) hh]
  have h1:(cur.toList.take (l.length*1))[i]?=(u8s l)[i]?:=by rw [ht]
  rw [List.getElem?_take,if_pos (by omega)] at h1
  rw [←Array.getElem?_toList,h1,u8s_get l i hi]
theorem OwnB.sl {w:World} {B:Nat} {v:Value} {l:Lb8} (h:OwnB w B v l):Sl w v l:=by
 obtain ⟨a,cap,rfl,hc,hr⟩:=h.open
 refine ⟨a,cap,rfl,hc,fun hne=>?_⟩
 obtain ⟨g,ea,_,hlt,hcell⟩:=hr hne
 exact ⟨g,0,ea,hlt,fun i hi=>by rw [Nat.zero_add];exact hcell i hi⟩
theorem OwnB.keep {w w':World} {B:Nat} {v:Value} {l:Lb8} (h:OwnB w B v l) (hk:∀ g,v.ownBlock=some g→w'.heap[g]?=w.heap[g]?):OwnB w' B v l:=by
 refine ⟨h.1,?_⟩
 rcases h.2 with hn | ⟨g,cap,cur,rfl,hg,hh,hr⟩
 ·exact .inl hn
 ·exact .inr ⟨g,cap,cur,rfl,hg,by rw [hk g rfl];exact hh,hr⟩
theorem OwnB.lt {w:World} {B:Nat} {v:Value} {l:Lb8} (h:OwnB w B v l):∀ k,v.ownBlock=some k→B≤k∧k < w.heap.size:=World.ownsRow.lt h
theorem OwnB.below {w w':World} {B:Nat} {v:Value} {l:Lb8} (h:OwnB w B v l) (hb:Below w.heap.size w w'):OwnB w' B v l:=
 h.keep fun g hg=>hb.block g (h.lt g hg).2
theorem OwnB.ne_at {w:World} {B b:Nat} {v:Value} {l:Lb8} {C:Array Value} {t:TypeId} (h:OwnB w B v l) (hC:At w b C t) (ht:t≠5):v.ownBlock≠some b:=by
 rcases h.2 with ⟨rfl,_⟩ | ⟨g,cap,cur,rfl,hg,hh,hr⟩
 ·simp [Value.ownBlock]
 ·intro e
  have:g=b:=by simpa [Value.ownBlock] using e
  subst this
  unfold At at hC
  rw [hh] at hC
  injection hC with hC
  injection hC with _ h2
  exact ht h2.symm
theorem run_append_nil_src {w:World} {B:Nat} {v:Value} {l:Lb8} (h:OwnB w B v l) (ty:TypeId) (c:Nat):(Builtin.append_ #[63,63] ty #[v,.slice none 0 c]).run Tryz.prog w=.ok v w:=by
 obtain ⟨i0,hi,_,_,_⟩:=info_parts infoU8
 rcases h.2 with ⟨rfl,_⟩ | ⟨g,cap,cur,rfl,_,_,hn,_⟩
 ·simp [Builtin.append_,run_underlying Tryz.underlying63,sizeOf,typeInfo,hi,Builtin.lenOf,Builtin.firstCells]
 ·simp [Builtin.append_,run_underlying Tryz.underlying63,sizeOf,typeInfo,hi,Builtin.lenOf,Builtin.firstCells,hn,storeCells]
set_option maxRecDepth 10000 in
theorem run_append_bytes {w:World} {B:Nat} {v vx:Value} {l m:Lb8} (hown:OwnB w B v l) (hsl:Sl w vx m) (hlen:l.length+m.length≤140737488355328) (hB:B≤w.heap.size) (ty:TypeId) :
 ∃ v' w',(Builtin.append_ #[63,63] ty #[v,vx]).run Tryz.prog w=.ok v' w'∧OwnB w' B v' (l++m)∧w.grownBy w' v.ownBlock:=by
 obtain ⟨a0,cap,rfl,hc,hr⟩:=hsl
 obtain ⟨i0,hi,hz0,hz1,hz2⟩:=info_parts infoU8
 have hml:maxLen=281474976710656∨140737488355328≤maxLen:=.inr (by simp [maxLen])
 cases a0 with
 | none=>
  have hm:m=[]:=by
   rcases m with _ | ⟨x,m⟩
   ·rfl
   ·obtain ⟨_,_,h,_⟩:=hr (by simp)
    cases h
  subst hm
  exact ⟨v,w,run_append_nil_src hown ty cap,by simpa using hown,World.grownBy.refl w _⟩
 | some ad=>
  have hcells:∀ j u,(u8s m)[j]?=some u→w.cell? (ad.add j)=some u:=by
   intro j u hu
   have hj:j < m.length:=by
    have:=(List.getElem?_eq_some_iff.1 hu).1
    rwa [u8s_length] at this
   obtain ⟨bb,oo,e,_,hcell⟩:=hr (by intro e;rw [e] at hj;simp at hj)
   injection e with e
   subst e
   rw [Addr.add_mid,hcell j hj,←hu,u8s_get m j hj]
  have h1:∀ u∈u8s m,u.oneCell'=true:=by
   intro u hu
   obtain ⟨x,_,rfl⟩:=List.mem_map.1 hu
   rfl
  obtain ⟨v',w',hrun,h2,h3,_,_⟩:=run_append_own_at (P:=Tryz.prog) w B 63 ty 5 i0 (.int .u8 0) 1 1 Tryz.underlying63 hi hz0 hz1 hz2 rfl (by decide) v l.length (u8s l) hown ad m.length cap (u8s m) (by rw [u8s_length,Nat.mul_one]) hcells h1 (by rcases hml with h | h <;> omega) (by omega) hB
  refine ⟨v',w',hrun,?_,h3⟩
  unfold OwnB
  rw [List.length_append,show u8s (l++m)=u8s l++u8s m by simp [u8s]]
  exact h2
theorem wpList_append_bytes {w:World} {ops:Array Oper} {rest:List Oper} {o:Oper} {a:Act} {Q:Exit→Act→World→Prop} (hgd:o.guard=none) (s x:Operand)
 (ho:o.op=.call { callee:=.builtin .append,args:=#[s,x],argTypes:=#[63,63] }) (B:Nat) (v vx:Value) (l m:Lb8)
 (hs:a.eval s=v) (hown:OwnB w B v l) (hx:a.eval x=vx) (hsl:Sl w vx m) (hlen:l.length+m.length≤140737488355328) (hB:B≤w.heap.size)
 (h:∀ v' w',OwnB w' B v' (l++m)→(∀ k,k < w.heap.size→v.ownBlock≠some k→w'.heap[k]?=w.heap[k]?)→Below B w w'→wpList Tryz.prog ops Q rest (a.put o.dst v') w'):wpList Tryz.prog ops Q (o::rest) a w:=by
 refine wpList_plain hgd fun K hK=>?_
 obtain ⟨v',w',hrun,h2,h3⟩:=run_append_bytes hown hsl hlen hB o.type
 unfold Oper.wp execOp
 simp only [ho,resolve,invoke,builtin,Sem.run_bind,Sem.run_pure,Result.andThen_ok,List.map_toArray,List.map_cons,List.map_nil,hs,hx,hrun]
 exact hK _ _ (h v' w' h2 (fun k hk hne=>h3.block k hk (fun e=>hne e.symm)) ((Below.refl _ _).grown h3 hB (fun g hg=>(hown.lt g hg).1)))
theorem wpList_copy_sl {w:World} {ops:Array Oper} {rest:List Oper} {op:Oper} {a:Act} {Q:Exit→Act→World→Prop} (hgd:op.guard=none) (x y:Operand)
 (ho:op.op=.call { callee:=.builtin .copy,args:=#[x,y],argTypes:=#[63,63] }) (b o dLen dCap:Nat) (vy:Value) (l:Lb8) (hx:a.eval x=.slice (some ⟨b,o,none⟩) dLen dCap) (hy:a.eval y=vy) (hl:Sl w vy l)
 (k:Nat) (hk:k=Nat.min l.length dLen) (C:Array Value) (t:TypeId) (hC:At w b C t) (hfit:o+k≤C.size) (E:Array Value) (hE:Mem.splice C o (u8s (l.take k))=E)
 (h:∀ w',At w' b E t→w'.heap.size=w.heap.size→(∀ k,k≠b→w'.heap[k]?=w.heap[k]?)→(∀ B a,Below B a w→B≤b→Below B a w')→wpList Tryz.prog ops Q rest (a.put op.dst (.int .i64 (k:Int))) w'):wpList Tryz.prog ops Q (op::rest) a w:=by
 obtain ⟨a0,cap,rfl,_,hr⟩:=hl
 have hkl:k≤l.length:=by rw [hk];exact Nat.min_le_left _ _
 have hlen:(u8s (l.take k)).length=k:=by rw [u8s_length,List.length_take];omega
 by_cases h0:k=0
 ·subst h0
  refine wpList_copy_nothing hgd x y _ _ ho 5 Tryz.underlying63 infoB (some ⟨b,o,none⟩) a0 dLen dCap l.length cap hx hy hk.symm ?_
  have hEC:E=C:=by rw [←hE];simp [Mem.splice,u8s]
  rw [hEC] at h
  exact h w hC rfl (fun _ _=>rfl) (fun _ _ hb _=>hb)
 ·obtain ⟨bb,oo,rfl,_,hc⟩:=hr (by intro e;rw [e] at hkl;simp at hkl;omega)
  refine wpList_copy_at hgd x y _ _ ho 5 Tryz.underlying63 infoB b o dLen dCap ⟨bb,oo,none⟩ l.length cap hx hy (u8s (l.take k)) (by rw [hlen];exact hk) (fun j v hj=>?_) (fun v hv=>?_) C t hC (by rw [hlen];exact hfit) E hE k hlen h
  ·have hjk:j < k:=by
    have:=(List.getElem?_eq_some_iff.1 hj).1
    rwa [hlen] at this
   rw [Addr.add_mid,hc j (by omega),←hj,u8s_get _ _ (by rw [List.length_take];omega)]
   simp [List.getD_eq_getElem?_getD,hjk]
  ·obtain ⟨_,_,rfl⟩:=List.mem_map.1 hv
   rfl
theorem ownV_B {w:World} {B:Nat} {v:Value} {l:Lb8} (h:OwnV w B 5 v (u8s l)):OwnB w B v l:=by
 unfold OwnV at h
 rw [u8s_length] at h
 exact h
theorem ownB_V {w:World} {B:Nat} {v:Value} {l:Lb8} (h:OwnB w B v l):OwnV w B 5 v (u8s l):=by
 unfold OwnV
 rw [u8s_length]
 exact h
theorem elemB8:elemB Tryz.prog 63 5 (.int .u8 0) 1:=⟨Tryz.underlying63,infoU8⟩
def PadEnd (w:World) (T:Lb8) (e:Ending) (w':World):Prop:=∃ v,e=.returned v∧OwnB w' w.heap.size v T∧Below w.heap.size w w'
theorem at_sl {w:World} {b n:Nat} {l:Lb8} {t:TypeId} (h:At w b (u8s l).toArray t) (hn:l.length=n):Sl w (.slice (some ⟨b,0,none⟩) n n) l:=by
 subst hn
 refine ⟨_,_,rfl,Nat.le_refl _,fun _=>⟨b,0,rfl,h.lt,fun i hi=>?_⟩⟩
 rw [Nat.zero_add,h.cell,List.getElem?_toArray,u8s_get l i hi]
theorem sl_at {w:World} {a:Option Addr} {cap:Nat} {l:Lb8} (h:Sl w (.slice a l.length cap) l) {i:Nat} (hi:i < l.length) :
 ∃ b o,a=some ⟨b,o,none⟩∧w.cell? ⟨b,o+i,none⟩=some (.int .u8 (B8 (l.getD i 0))):=by
 obtain ⟨a',cap',e,_,hr⟩:=h
 injection e with e1 _ _
 obtain ⟨b,o,ea,_,hc⟩:=hr (by intro e;rw [e] at hi;simp at hi)
 exact ⟨b,o,by rw [e1];exact ea,hc i hi⟩
theorem own_full {w:World} {B g n:Nat} {e:TypeId} {xs:List Value} (h:w.ownsRow B e 1 (.slice (some ⟨g,0,none⟩) n n) n xs):At w g xs.toArray e:=by
 obtain ⟨hl,h | ⟨g',cap,cur,e1,_,hh,_,_,hc,ht⟩⟩:=h
 ·cases h.1
 ·injection e1 with e1 _ e2
  injection e1 with e1
  injection e1 with e1
  subst e1;subst e2
  have:cur=xs.toArray:=by
   rw [←ht,List.take_of_length_le (by simp [hc])]
  rw [←this];exact hh
theorem made_zeros (n:Nat):(madeCells (Value.int .u8 0).cells (n*1)).toList=u8s (List.replicate n 0):=by
 rw [madeCells,Nat.mul_one]
 apply List.ext_getElem
 ·simp [u8s]
 ·intro i h1 h2
  simp [u8s,Value.cells,Nat.mod_one]
end Sha
end Go.Proofs.YtplmfmpbkjnbaaaGreatDoor
namespace Go.Proofs.YtplmfmpbkjnbaaaGreatDoor
namespace Mem
open Go.RowKit
abbrev Foot:=Nat→Prop
structure Chg (F:Foot) (w w':World):Prop where
 os:w'.os=w.os
 tape:w'.tape=w.tape
 output:w'.output=w.output
 size:w.heap.size≤w'.heap.size
 block:∀ k,k < w.heap.size→¬ F k→w'.heap[k]?=w.heap[k]?
theorem Chg.refl (F:Foot) (w:World):Chg F w w:=⟨rfl,rfl,rfl,Nat.le_refl _,fun _ _ _=>rfl⟩
theorem Chg.of_below {F:Foot} {w w':World} (h:Below w.heap.size w w'):Chg F w w':=⟨h.os,h.tape,h.output,h.size,fun k hk _=>h.block k hk⟩
theorem Chg.trans {F F1:Foot} {w w1 w2:World} (h:Chg F w w1) (k:Chg F1 w1 w2) (hs:∀ x,F1 x→F x∨w.heap.size≤x):Chg F w w2:=
 ⟨k.os.trans h.os,k.tape.trans h.tape,k.output.trans h.output,Nat.le_trans h.size k.size,fun x hx hn=>(k.block x (Nat.lt_of_lt_of_le hx h.size) (fun h1=>(hs x h1).elim hn (fun h2=>by omega))).trans (h.block x hx hn)⟩
theorem Chg.mono {F G:Foot} {w w':World} (h:Chg F w w') (hs:∀ x,F x→G x∨w.heap.size≤x):Chg G w w':=
 ⟨h.os,h.tape,h.output,h.size,fun x hx hn=>h.block x hx (fun h1=>(hs x h1).elim hn (fun h2=>by omega))⟩
theorem Chg.below {F:Foot} {B:Nat} {x w w':World} (h:Chg F w w') (hb:Below B x w) (hF:∀ k,F k→B≤k) (hB:B≤w.heap.size):Below B x w':=
 ⟨h.os.trans hb.os,h.tape.trans hb.tape,h.output.trans hb.output,Nat.le_trans hb.size h.size,fun k hk=>(h.block k (Nat.lt_of_lt_of_le hk hB) (fun h1=>by have:=hF k h1;omega)).trans (hb.block k hk)⟩
theorem Chg.drew {F:Foot} {w w':World} (h:Chg F w w'):Chg F w w'.drew:=⟨h.os,h.tape,h.output,h.size,h.block⟩
theorem At.chg {F:Foot} {w w':World} {b:Nat} {C:Array Value} {t:TypeId} (h:At w b C t) (hc:Chg F w w') (hn:¬ F b):At w' b C t:=by
 have hl:=h.lt
 unfold At at *
 rw [hc.block b hl hn];exact h
def grow (F:Foot) (w w':World):Foot:=fun k=>(F k∨w.heap.size≤k)∧k < w'.heap.size
theorem grow_lt {F:Foot} {w w':World}:∀ k,grow F w w' k→k < w'.heap.size:=fun _ h=>h.2
def SlR (F:Foot) (w:World) (z:Nat) (v:Value) (n:Nat) (xs:List Value):Prop:=
 xs.length=n*z∧∃ a cap,v=.slice a n cap∧n≤cap∧(n≠0→∃ bb oo,a=some ⟨bb,oo,none⟩∧F bb∧bb < w.heap.size∧∀ (j:Nat) u,xs[j]?=some u→w.cell? ⟨bb,oo+j,none⟩=some u)
theorem SlR.nil (F:Foot) (w:World) (z:Nat):SlR F w z (.slice none 0 0) 0 []:=⟨by simp,none,0,rfl,Nat.le_refl _,fun h=>absurd rfl h⟩
theorem SlR.keep {F:Foot} {w w':World} {z n:Nat} {v:Value} {xs:List Value} (h:SlR F w z v n xs) (hs:w.heap.size≤w'.heap.size) (hk:∀ k,F k→k < w.heap.size→w'.heap[k]?=w.heap[k]?):SlR F w' z v n xs:=by
 obtain ⟨hl,a,cap,e,hc,hr⟩:=h
 refine ⟨hl,a,cap,e,hc,fun hne=>?_⟩
 obtain ⟨bb,oo,ea,hF,hlt,hcell⟩:=hr hne
 exact ⟨bb,oo,ea,hF,Nat.lt_of_lt_of_le hlt hs,fun j u hu=>by rw [World.cell?_of_block (w:=w) (w':=w') (a:=⟨bb,oo+j,none⟩) (hk bb hF hlt)];exact hcell j u hu⟩
theorem SlR.mono {F G:Foot} {w:World} {z n:Nat} {v:Value} {xs:List Value} (h:SlR F w z v n xs) (hs:∀ k,F k→k < w.heap.size→G k):SlR G w z v n xs:=by
 obtain ⟨hl,a,cap,e,hc,hr⟩:=h
 refine ⟨hl,a,cap,e,hc,fun hne=>?_⟩
 obtain ⟨bb,oo,ea,hF,hlt,hcell⟩:=hr hne
 exact ⟨bb,oo,ea,hs bb hF hlt,hlt,hcell⟩
theorem SlR.below {F:Foot} {w w':World} {z n:Nat} {v:Value} {xs:List Value} (h:SlR F w z v n xs) (hb:Below w.heap.size w w'):SlR F w' z v n xs:=
 h.keep hb.size fun k _ hk=>hb.block k hk
def elemR (P:Program) (t e:TypeId) (zv:Value) (z bytes:Nat):Prop:=P.underlying t=some (.slice e)∧(P.info? e).map (fun i=>(i.zero,i.size,i.bytes))=some (some zv,z,bytes)
def RdR (w:World) (z:Nat) (v:Value) (n:Nat) (xs:List Value):Prop:=xs.length=n*z∧∃ a cap,v=.slice a n cap∧(n≠0→∃ p,a=some p∧∀ i u,xs[i]?=some u→w.cell? (p.add i)=some u)
theorem SlR.rd {F:Foot} {w:World} {z n:Nat} {v:Value} {xs:List Value} (h:SlR F w z v n xs):RdR w z v n xs:=by
 obtain ⟨hl,a,cap,e,_,hr⟩:=h
 refine ⟨hl,a,cap,e,fun hne=>?_⟩
 obtain ⟨bb,oo,ea,_,_,hc⟩:=hr hne
 exact ⟨_,ea,fun i u hu=>by rw [Addr.add_mid];exact hc i u hu⟩
theorem rdR_new {w:World} {e:TypeId} {C:Array Value}:RdR (w.alloc (.cells C e)) C.size (.slice (some ⟨w.heap.size,0,none⟩) 1 1) 1 C.toList:=
 ⟨by simp,_,_,rfl,fun _=>⟨_,rfl,fun i u hu=>by rw [Addr.add_mid,Nat.zero_add,(at_new w C e).cell,←hu,Array.getElem?_toList]⟩⟩
theorem ownsRow_slR {w:World} {B:Nat} {e:TypeId} {z n:Nat} {v:Value} {xs:List Value} (h:w.ownsRow B e z v n xs):SlR (fun k=>B≤k) w z v n xs:=by
 obtain ⟨hl,h | ⟨g,cap,cur,rfl,hg,hh,hn,hc,hs,ht⟩⟩:=h
 ·obtain ⟨rfl,rfl⟩:=h
  have:xs=[]:=List.eq_nil_of_length_eq_zero (by simpa using hl)
  subst this
  exact SlR.nil _ _ _
 ·refine ⟨hl,_,cap,rfl,hn,fun _=>⟨g,0,rfl,hg,(Array.getElem?_eq_some_iff.1 hh).1,fun j u hu=>?_⟩⟩
  have hi:=(List.getElem?_eq_some_iff.1 hu).1
  rw [Nat.zero_add,cell_of_row w g j cur _ (0,0) hh]
  have h1:(cur.toList.take (n*z))[j]?=xs[j]?:=by rw [ht]
  rw [List.getElem?_take,if_pos (by omega)] at h1
  rw [←Array.getElem?_toList,h1,hu]
theorem ownsRow_keep {w w':World} {B:Nat} {e:TypeId} {z n:Nat} {v:Value} {xs:List Value} (h:w.ownsRow B e z v n xs) (hk:∀ g,v.ownBlock=some g→w'.heap[g]?=w.heap[g]?):w'.ownsRow B e z v n xs:=by
 refine ⟨h.1,?_⟩
 rcases h.2 with hn | ⟨g,cap,cur,rfl,hg,hh,hr⟩
 ·exact .inl hn
 ·exact .inr ⟨g,cap,cur,rfl,hg,by rw [hk g rfl];exact hh,hr⟩
theorem ownsRow_below {w w':World} {B:Nat} {e:TypeId} {z n:Nat} {v:Value} {xs:List Value} (h:w.ownsRow B e z v n xs) (hb:Below w.heap.size w w'):w'.ownsRow B e z v n xs:=
 ownsRow_keep h fun g hg=>hb.block g (World.ownsRow.lt h g hg).2
theorem ownsRow_base {w:World} {B B':Nat} {e:TypeId} {z n:Nat} {v:Value} {xs:List Value} (h:w.ownsRow B e z v n xs) (hB:B'≤B):w.ownsRow B' e z v n xs:=by
 refine ⟨h.1,?_⟩
 rcases h.2 with hn | ⟨g,cap,cur,e,hg,hr⟩
 ·exact .inl hn
 ·exact .inr ⟨g,cap,cur,e,Nat.le_trans hB hg,hr⟩
theorem ownsRow_ne {w:World} {B B':Nat} {e e':TypeId} {z z' n n':Nat} {v v':Value} {xs ys:List Value} (h:w.ownsRow B e z v n xs) (k:w.ownsRow B' e' z' v' n' ys) (he:e≠e'):∀ g,v.ownBlock=some g→v'.ownBlock≠some g:=by
 intro g hg hg'
 rcases h.2 with ⟨rfl,_⟩ | ⟨b,cap,cur,rfl,_,hh,_⟩
 ·simp [Value.ownBlock] at hg
 rcases k.2 with ⟨rfl,_⟩ | ⟨b',cap',cur',rfl,_,hh',_⟩
 ·simp [Value.ownBlock] at hg'
 have e1:b=g:=by simpa [Value.ownBlock] using hg
 have e2:b'=g:=by simpa [Value.ownBlock] using hg'
 subst e1;subst e2
 rw [hh] at hh'
 injection hh' with hh'
 injection hh' with _ h2
 exact he h2
section
end
theorem ret_row_tmp {P:Program} {fn:Func} {R:Ending→World→Prop} {tmps:Array Value} {w:World} {p u:Tmp} {ty:TypeId} (h:fn.results=#[.cell p ty,.tmp u]) (g:Nat) (t:TypeId) (cs:Array Value) (d:TypeDesc) (v:Value)
 (hp:tmps.getD p undef=.pointer (some ⟨g,0,none⟩)) (hv:tmps.getD u undef=v) (hg:At w g cs t) (hu:P.underlying ty=some d) (hd:d.isRow=true) (hi:(P.info? ty).map (·.size)=some cs.size)
 (hR:R (.returned (.tuple #[.agg cs,v])) w):bodyPost P fn R .ret ⟨tmps,[]⟩ w:=by
 refine bodyPost_ret (v:=.tuple #[.agg cs,v]) ?_ rfl hR
 rw [results_cell_tmp h,hp,hv]
 have hrow:=run_loadVar_row (P:=P) w g t ty cs (0,0) d hg hu (by cases d <;> first | rfl | exact hd) hi
 simp [asAddr,Result.andThen,hrow]
def Each2 {α β:Type} (R:α→β→Prop):List α→List β→Prop
 | [],[]=>True
 | x::l,y::m=>R x y∧Each2 R l m
 | _,_=>False
theorem Each2.length {α β:Type} {R:α→β→Prop}:∀ {l:List α} {m:List β},Each2 R l m→l.length=m.length
 | [],[],_=>rfl
 | _::l,_::m,h=>by simp [Each2.length h.2]
theorem Each2.mono {α β:Type} {R S:α→β→Prop} (hs:∀ x y,R x y→S x y):∀ {l:List α} {m:List β},Each2 R l m→Each2 S l m
 | [],[],_=>trivial
 | _::_,_::_,h=>⟨hs _ _ h.1,Each2.mono hs h.2⟩
theorem Each2.snoc {α β:Type} {R:α→β→Prop} {x:α} {y:β} (hr:R x y):∀ {l:List α} {m:List β},Each2 R l m→Each2 R (l++[x]) (m++[y])
 | [],[],_=>⟨hr,trivial⟩
 | _::_,_::_,h=>⟨h.1,Each2.snoc hr h.2⟩
theorem Each2.at {α β:Type} {R:α→β→Prop}:∀ {l:List α} {m:List β},Each2 R l m→∀ {i:Nat} {y:β},m[i]?=some y→∃ x,l[i]?=some x∧R x y
 | [],[],_,_,_,hy=>by simp at hy
 | _::_,z::_,h,0,y,hy=>by
  have hzy:z=y:=by simpa using hy
  subst hzy
  exact ⟨_,rfl,h.1⟩
 | _::l,_::m,h,i+1,y,hy=>by
  have hy':m[i]?=some y:=by simpa using hy
  simpa using Each2.at h.2 hy'
end Mem
end Go.Proofs.YtplmfmpbkjnbaaaGreatDoor
namespace Go.Proofs.YtplmfmpbkjnbaaaGreatDoor
namespace Sha
open Go.RowKit Mem
theorem own_ne_at {w:World} {B b z n:Nat} {e t:TypeId} {v:Value} {xs:List Value} {C:Array Value} (h:w.ownsRow B e z v n xs) (hC:At w b C t) (ht:t≠e):v.ownBlock≠some b:=by
 rcases h.2 with ⟨rfl,_⟩ | ⟨g,cap,cur,rfl,hg,hh,hr⟩
 ·simp [Value.ownBlock]
 ·intro e
  have:g=b:=by simpa [Value.ownBlock] using e
  subst this
  unfold At at hC
  rw [hh] at hC
  injection hC with hC
  injection hC with _ h2
  exact ht h2.symm
structure App (w w1:World) (v v':Value):Prop where
 size:w.heap.size≤w1.heap.size
 k:∀ k,k < w.heap.size→v.ownBlock≠some k→w1.heap[k]?=w.heap[k]?
 b:v'.ownBlock=v.ownBlock∨∃ g,v'.ownBlock=some g∧w.heap.size≤g
theorem own_none {e:TypeId} {z:Nat} (w:World) (B:Nat) (hB:B≤w.heap.size):(w.alloc (.cells #[] e)).ownsRow B e z (.slice (some ⟨w.heap.size,0,none⟩) 0 0) 0 []:=World.ownsRow_made w #[] 0 hB (Nat.zero_le _) (by simp)
theorem App.after {w w0 w1:World} {v v':Value} (h:App w0 w1 v v') (hb:Below w.heap.size w w0):App w w1 v v':=
 ⟨Nat.le_trans hb.size h.size,fun k hk hn=>(h.k k (Nat.lt_of_lt_of_le hk hb.size) hn).trans (hb.block k hk),h.b.imp id fun ⟨g,e,hg⟩=>⟨g,e,Nat.le_trans hb.size hg⟩⟩
theorem App.chg {F:Foot} {w w1:World} {v v':Value} (h:App w w1 v v') (hb:Below 0 w w1) (hF:∀ k,v.ownBlock=some k→F k):Chg F w w1:=
 ⟨hb.os,hb.tape,hb.output,h.size,fun k hk hn=>h.k k hk fun e=>hn (hF k e)⟩
theorem at_appd {w w1:World} {b:Nat} {C:Array Value} {t:TypeId} {v v':Value} (h:At w b C t) (ha:App w w1 v v') (hne:v.ownBlock≠some b):At w1 b C t:=Sha.At.app h ha.k hne
section
variable {P:Program} {w:World} {B:Nat} {e:TypeId} {v:Value} {xs:List Value}
theorem run_append_app {t ty:TypeId} {zv vx:Value} {n m z:Nat} {ys:List Value} {bytes:Nat} (he:elemR P t e zv z bytes) (hzv:zv.cells.size=z) (hz0:0 < z) (hown:w.ownsRow B e z v n xs) (hrd:RdR w z vx m ys) (h1:∀ u∈ys,u.oneCell'=true) (hlen:(n+m)*bytes≤140737488355328) (hl2:n+m < 140737488355328) (hB:B≤w.heap.size) :
 ∃ v' w',(Builtin.append_ #[t,t] ty #[v,vx]).run P w=.ok v' w'∧w'.ownsRow B e z v' (n+m) (xs++ys)∧App w w' v v'∧Below B w w':=by
 obtain ⟨i0,hi,hzz,hs,hb⟩:=info_parts he.2
 obtain ⟨hyl,a0,cap,rfl,hr⟩:=hrd
 have hml:140737488355328≤maxLen:=by simp [maxLen]
 have hlt:∀ g,v.ownBlock=some g→B≤g:=fun g hg=>(World.ownsRow.lt hown g hg).1
 have fin:∀ {v':Value} {w':World},w.grownBy w' v.ownBlock→(v'.ownBlock=v.ownBlock∨v'.ownBlock=some w.heap.size)→App w w' v v'∧Below B w w':=fun h3 h5=>
  ⟨⟨h3.size,fun k hk hne=>h3.block k hk (fun e=>hne e.symm),h5.imp id fun h=>⟨_,h,Nat.le_refl _⟩⟩,(Below.refl _ _).grown h3 hB hlt⟩
 by_cases hne:m=0
 ·subst hne
  have hys:ys=[]:=List.eq_nil_of_length_eq_zero (by simpa using hyl)
  subst hys
  cases a0 with
  | none=>
   refine ⟨v,w,?_,by simpa using hown,fin (World.grownBy.refl w _) (.inl rfl)⟩
   rcases hown.2 with ⟨rfl,rfl⟩ | ⟨g,cap',cur,rfl,_,_,hn,_⟩
   ·simp [Builtin.append_,run_underlying he.1,sizeOf,typeInfo,hi,Builtin.lenOf,Builtin.firstCells]
   ·simp [Builtin.append_,run_underlying he.1,sizeOf,typeInfo,hi,Builtin.lenOf,Builtin.firstCells,hn,storeCells]
  | some ad=>
   obtain ⟨v',w',hrun,h2,h3,_,h5⟩:=run_append_own_at (P:=P) w B t ty e i0 zv z bytes he.1 hi hzz hs hb hzv hz0 v n xs hown ad 0 cap [] (by simp) (fun j u hu=>by simp at hu) (fun u hu=>by simp at hu) (by omega) (by simpa using hlen) hB
   exact ⟨v',w',hrun,h2,fin h3 h5⟩
 ·obtain ⟨ad,rfl,hc⟩:=hr hne
  obtain ⟨v',w',hrun,h2,h3,_,h5⟩:=run_append_own_at (P:=P) w B t ty e i0 zv z bytes he.1 hi hzz hs hb hzv hz0 v n xs hown ad m cap ys hyl hc h1 (by omega) hlen hB
  exact ⟨v',w',hrun,h2,fin h3 h5⟩
theorem wpList_append_app {ops:Array Oper} {rest:List Oper} {o:Oper} {a:Act} {Q:Exit→Act→World→Prop} (hgd:o.guard=none) (s x:Operand) (t:TypeId) (ho:o.op=.call { callee:=.builtin .append,args:=#[s,x],argTypes:=#[t,t] })
 (vx:Value) (n m z:Nat) (ys:List Value) (zv:Value) (bytes:Nat) (he:elemR P t e zv z bytes) (hzv:zv.cells.size=z) (hz0:0 < z) (hs:a.eval s=v) (hown:w.ownsRow B e z v n xs) (hx:a.eval x=vx) (hrd:RdR w z vx m ys) (h1:∀ u∈ys,u.oneCell'=true) (hlen:(n+m)*bytes≤140737488355328) (hl2:n+m < 140737488355328) (hB:B≤w.heap.size)
 (h:∀ v' w',w'.ownsRow B e z v' (n+m) (xs++ys)→App w w' v v'→Below B w w'→wpList P ops Q rest (a.put o.dst v') w') :
 wpList P ops Q (o::rest) a w:=by
 refine wpList_plain hgd fun K hK=>?_
 obtain ⟨v',w',hrun,h2,h3,h4⟩:=run_append_app (P:=P) (ty:=o.type) he hzv hz0 hown hrd h1 hlen hl2 hB
 unfold Oper.wp execOp
 simp only [ho,resolve,invoke,builtin,Sem.run_bind,Sem.run_pure,Result.andThen_ok,List.map_toArray,List.map_cons,List.map_nil,hs,hx,hrun]
 exact hK _ _ (h v' w' h2 h3 h4)
theorem plan_append_app {ops:Array Oper} {o:Oper} {a:Act} {Q:Exit→Act→World→Prop} {S:World→Prop} {i:Nat} {r:Plan} (s x:Operand) (t:TypeId) (ho:ops.toList[i]?=some o) (hw:Region.wanted o (yielded ops a.tmps)=true) (hop:o.op=.call { callee:=.builtin .append,args:=#[s,x],argTypes:=#[t,t] })
 (vx:Value) (n m z:Nat) (ys:List Value) (zv:Value) (bytes:Nat) (he:elemR P t e zv z bytes) (hzv:zv.cells.size=z) (hz0:0 < z) (hs:a.eval s=v) (hown:w.ownsRow B e z v n xs) (hx:a.eval x=vx) (hrd:RdR w z vx m ys) (h1:∀ u∈ys,u.oneCell'=true) (hlen:(n+m)*bytes≤140737488355328) (hl2:n+m < 140737488355328) (hB:B≤w.heap.size)
 (h:∀ v' w',w'.ownsRow B e z v' (n+m) (xs++ys)→App w w' v v'→Below B w w'→S w'∧wpPlan P ops Q S r (a.put o.dst v') w') :
 wpPlan P ops Q S (.sole i r) a w:=by
 refine wpOp_at ho hw ?_
 obtain ⟨v',w',hrun,h2,h3,h4⟩:=run_append_app (P:=P) (ty:=o.type) he hzv hz0 hown hrd h1 hlen hl2 hB
 unfold Oper.wp execOp
 simp only [hop,resolve,invoke,builtin,Sem.run_bind,Sem.run_pure,Result.andThen_ok,List.map_toArray,List.map_cons,List.map_nil,hs,hx,hrun]
 exact h v' w' h2 h3 h4
end
theorem rows_hd {w:World} {B:Nat} {e:TypeId} {z n:Nat} {v:Value} {xs:List Value} (h:w.ownsRow B e z v n xs):∃ a c,v=.slice a n c:=by
 obtain ⟨_,a,c,e,_⟩:=ownsRow_slR h
 exact ⟨a,c,e⟩
end Sha
end Go.Proofs.YtplmfmpbkjnbaaaGreatDoor
namespace Go.Proofs.YtplmfmpbkjnbaaaGreatDoor
namespace Mem
open Go.RowKit
section
variable {P:Program} {ops:Array Oper} {Q:Exit→Act→World→Prop} {S:World→Prop} {w:World} {a:Act} {o:Oper} {i:Nat} {r:Plan}
theorem plan_nilcheck (x:Operand) (p:Addr) (ho:ops.toList[i]?=some o) (hw:Region.wanted o (yielded ops a.tmps)=true) (hop:o.op=.nilCheck x) (hx:a.eval x=.pointer (some p))
 (h:wpPlan P ops Q S r (a.put o.dst (.pointer (some p))) w):wpPlan P ops Q S (.take i r) a w:=
 plan_take _ ho hw (fun w' _=>by simp [execOp,hop,hx]) h
theorem plan_index_z (t e:TypeId) (x ix:Operand) (g off n c z:Nat) (k:Nat) (ho:ops.toList[i]?=some o) (hw:Region.wanted o (yielded ops a.tmps)=true) (hop:o.op=.indexAddr t x ix)
 (hx:a.eval x=.slice (some ⟨g,off,none⟩) n c) (hi:a.eval ix=.int .i64 (k:Int)) (hk:k < n) (hu:P.underlying t=some (.slice e)) (hs:(P.info? e).map (·.size)=some z)
 (h:wpPlan P ops Q S r (a.put o.dst (.pointer (some ⟨g,off+k*z,none⟩))) w):wpPlan P ops Q S (.take i r) a w:=
 plan_take _ ho hw (fun w' _=>by
  cases hq:P.info? e with
  | none=>simp [hq] at hs
  | some q=>
   have hs1:q.size=z:=by simpa [hq] using hs
   simp [execOp,hop,hx,hi,Instr.indexAt,asIntOf,Sem.run_bind,run_underlying hu,sizeOf,typeInfo,hq,hs1,hk,Addr.add]) h
theorem plan_sole_val (v:Value) (ho:ops.toList[i]?=some o) (hw:Region.wanted o (yielded ops a.tmps)=true) (hv:(execOp a.eval o).run P w=.ok (.value v) w) (hS:S w)
 (h:wpPlan P ops Q S r (a.put o.dst v) w):wpPlan P ops Q S (.sole i r) a w:=by
 refine wpOp_at ho hw ?_
 unfold Oper.wp
 rw [hv]
 exact ⟨hS,h⟩
theorem plan_sole_cell (t:TypeId) (x:Operand) (p:Addr) (v:Value) (d:TypeDesc) (ho:ops.toList[i]?=some o) (hw:Region.wanted o (yielded ops a.tmps)=true) (hop:o.op=.load t x)
 (hx:a.eval x=.pointer (some p)) (hc:w.cell? p=some v) (hu:P.underlying t=some d) (hd:d.isRow=false) (hS:S w)
 (h:wpPlan P ops Q S r (a.put o.dst v) w):wpPlan P ops Q S (.sole i r) a w:=
 plan_sole_val v ho hw (by
  have hagg:(isAgg t).run P w=.ok false w:=by
   unfold isAgg
   rw [Sem.run_bind,run_underlying hu w]
   cases d <;> simp_all
  simp [execOp,hop,hx,Instr.loadAt,Instr.sureAddr,loadVar,Sem.run_bind,hagg,hc]) hS h
end
theorem plan_load_range {P:Program} {ops:Array Oper} {Q:Exit→Act→World→Prop} {S:World→Prop} {w:World} {a:Act} {o:Oper} {i:Nat} {r:Plan} (ty:TypeId) (x:Operand) (b off:Nat) (d:TypeDesc) (R:Array Value) (ho:ops.toList[i]?=some o) (hw:Region.wanted o (yielded ops a.tmps)=true) (hop:o.op=.load ty x) (hx:a.eval x=.pointer (some ⟨b,off,none⟩))
 (hC:∀ w',S w'→w'.rangeAt b off R.toList) (hu:P.underlying ty=some d) (hd:d.isRow=true) (hi:(P.info? ty).map (·.size)=some R.size) (h:wpPlan P ops Q S r (a.put o.dst (.agg R)) w) :
 wpPlan P ops Q S (.take i r) a w:=
 plan_take _ ho hw (fun w' hw'=>by
  have hr:=run_loadAt_mid (P:=P) w' b off ty R.toList d (hC w' hw') hu hd (by rw [hi];simp)
  unfold execOp
  simp only [hop,hx,Sem.run_bind,hr,Result.andThen_ok,Sem.run_pure]) h
theorem plan_not {P:Program} {ops:Array Oper} {Q:Exit→Act→World→Prop} {S:World→Prop} {w:World} {a:Act} {o:Oper} {i:Nat} {r:Plan} (t:TypeId) (x:Operand) (b:Bool) (ho:ops.toList[i]?=some o) (hw:Region.wanted o (yielded ops a.tmps)=true) (hop:o.op=.unOp .not t x)
 (hx:a.eval x=.bool b) (h:wpPlan P ops Q S r (a.put o.dst (.bool (!b))) w):wpPlan P ops Q S (.take i r) a w:=
 plan_take _ ho hw (fun w' _=>by cases b <;> simp [execOp,hop,hx,Op.unary]) h
theorem plan_extract {P:Program} {ops:Array Oper} {Q:Exit→Act→World→Prop} {S:World→Prop} {w:World} {a:Act} {o:Oper} {i:Nat} {r:Plan} (x:Operand) (k:Nat) (vs:Array Value) (v:Value) (ho:ops.toList[i]?=some o) (hw:Region.wanted o (yielded ops a.tmps)=true) (hop:o.op=.extract x k)
 (hx:a.eval x=.tuple vs) (hv:vs[k]?=some v) (h:wpPlan P ops Q S r (a.put o.dst v) w):wpPlan P ops Q S (.take i r) a w:=
 plan_take v ho hw (fun w' _=>by simp [execOp,hop,hx,Instr.extract,hv]) h
end Mem
end Go.Proofs.YtplmfmpbkjnbaaaGreatDoor
namespace Go.Proofs.YtplmfmpbkjnbaaaGreatDoor
namespace Sha
open Go.RowKit Mem
def iz (l:List Int):List Value:=l.map (.int .i64)
theorem iz_length (l:List Int):(iz l).length=l.length:=by simp [iz]
theorem iz_snoc (l:List Int) (x:Int):iz (l++[x])=iz l++[.int .i64 x]:=by simp [iz]
theorem iz_get (l:List Int) (i:Nat) (h:i < l.length):(iz l)[i]?=some (.int .i64 (l.getD i 0)):=by simp [iz,List.getD_eq_getElem?_getD,h]
def SlI (w:World) (v:Value) (l:List Int):Prop:=
 ∃ a cap,v=.slice a l.length cap∧l.length≤cap∧(l≠[]→∃ b o,a=some ⟨b,o,none⟩∧b < w.heap.size∧∀ i,i < l.length→w.cell? ⟨b,o+i,none⟩=some (.int .i64 (l.getD i 0)))
theorem SlI.nil (w:World):SlI w (.slice none 0 0) []:=⟨none,0,rfl,Nat.le_refl _,fun h=>absurd rfl h⟩
theorem SlI.hd {w:World} {v:Value} {l:List Int} (h:SlI w v l):∃ a c,v=.slice a l.length c:=let ⟨a,c,e,_⟩:=h;⟨a,c,e⟩
theorem SlI.below {w wr:World} {v:Value} {l:List Int} (h:SlI w v l) (hb:Below w.heap.size w wr):SlI wr v l:=by
 obtain ⟨a,cap,e,hc,hr⟩:=h
 refine ⟨a,cap,e,hc,fun hne=>?_⟩
 obtain ⟨b,o,ea,hlt,hcell⟩:=hr hne
 exact ⟨b,o,ea,Nat.lt_of_lt_of_le hlt hb.size,fun i hi=>(hb.cell (p:=⟨b,o+i,none⟩) hlt).trans (hcell i hi)⟩
theorem SlI.same {w wr:World} {v:Value} {l:List Int} (h:SlI w v l) (hs:w.heap.size≤wr.heap.size) (hk:∀ b o n c,v=.slice (some ⟨b,o,none⟩) n c→wr.heap[b]?=w.heap[b]?):SlI wr v l:=by
 obtain ⟨a,cap,e,hc,hr⟩:=h
 refine ⟨a,cap,e,hc,fun hne=>?_⟩
 obtain ⟨b,o,ea,hlt,hcell⟩:=hr hne
 refine ⟨b,o,ea,Nat.lt_of_lt_of_le hlt hs,fun i hi=>?_⟩
 rw [World.cell?_of_block (w:=w) (w':=wr) (a:=⟨b,o+i,none⟩) (hk b o l.length cap (by rw [e,ea]))]
 exact hcell i hi
theorem sli_at {w:World} {a:Option Addr} {n c i:Nat} {l:List Int} (h:SlI w (.slice a n c) l) (hn:n=l.length) (hi:i < n):∃ b o,a=some ⟨b,o,none⟩∧b < w.heap.size∧w.cell? ⟨b,o+i,none⟩=some (.int .i64 (l.getD i 0)):=by
 obtain ⟨a',c',e,_,hr⟩:=h
 obtain ⟨b,o,ea,hlt,hcell⟩:=hr (by intro e0;subst e0;simp at hn;omega)
 injection e with e1 _ _
 subst e1
 exact ⟨b,o,ea,hlt,hcell i (by omega)⟩
theorem sli_cell {w:World} {b o n c i:Nat} {l:List Int} (h:SlI w (.slice (some ⟨b,o,none⟩) n c) l) (hn:n=l.length) (hi:i < n):w.cell? ⟨b,o+i,none⟩=some (.int .i64 (l.getD i 0)):=by
 obtain ⟨b',o',e,_,cx⟩:=sli_at h hn hi
 injection e with e
 injection e with e2 e3 _
 subst e2 e3
 exact cx
theorem ownV_sli {w:World} {B:Nat} {e:TypeId} {v:Value} {l:List Int} (h:OwnV w B e v (iz l)):SlI w v l:=by
 obtain ⟨a,cap,rfl,hc,hr⟩:=OwnV.open h
 rw [iz_length] at hc
 refine ⟨a,cap,by rw [iz_length],hc,fun hne=>?_⟩
 obtain ⟨g,ea,_,hlt,hcell⟩:=hr (by intro e0;exact hne (by simpa [iz] using e0))
 exact ⟨g,0,ea,hlt,fun i hi=>by rw [Nat.zero_add];exact hcell i _ (iz_get l i hi)⟩
def IEnd (w:World) (L:List Int) (e:Ending) (w':World):Prop:=∃ v,e=.returned v∧SlI w' v L∧Below w.heap.size w w'
theorem wpList_conv {P:Program} {ops:Array Oper} {rest:List Oper} {o:Oper} {a:Act} {w:World} {Q:Exit→Act→World→Prop} (hw:Region.wanted o (yielded ops a.tmps)=true) (t1 t2:TypeId) (x:Operand) (vx v:Value)
 (hop:o.op=.convert t1 t2 x) (hx:a.eval x=vx) (hv:∀ w',(convert t1 t2 vx).run P w'=.ok v w') (h:wpList P ops Q rest (a.put o.dst v) w):wpList P ops Q (o::rest) a w:=by
 unfold wpList
 rw [if_pos hw]
 left
 unfold Oper.wp
 have:(execOp a.eval o).run P w=.ok (.value v) w:=by
  have:=hv w
  simp only [execOp,hop,hx]
  rw [Sem.run_bind,this];rfl
 rw [this]
 exact h
end Sha
end Go.Proofs.YtplmfmpbkjnbaaaGreatDoor
namespace Go.Proofs.YtplmfmpbkjnbaaaGreatDoor
namespace Sha
open Go.RowKit Mem
section
variable {P:Program} {ops:Array Oper} {Q:Exit→Act→World→Prop} {S:World→Prop} {w:World} {a:Act} {o:Oper} {i:Nat} {r p:Plan}
theorem plan_make (l c:Operand) (t:TypeId) (ho:ops.toList[i]?=some o) (hw:Region.wanted o (yielded ops a.tmps)=true) (hop:o.op=Op.makeSlice t l c)
 (base:Nat) (e:TypeId) (ti:TypeInfo) (z:Value) (size:Nat) (h1:P.underlying t=some (.slice e)) (h2:P.info? e=some ti) (h3:ti.zero=some z) (h4:ti.size=size)
 (kl kc:IntKind) (n:Nat) (hl:a.eval l=.int kl (n:Int)) (hc:a.eval c=.int kc (n:Int)) (b2:ti.bytes*n≤281474976710656) (b3:n≤maxLen) (b4:base≤w.heap.size)
 (hK:∀ w',w'.ownsRow base e size (.slice (some ⟨w.heap.size,0,none⟩) n n) n (madeCells z.cells (n*size)).toList→w.grownBy w' none→S w'∧wpPlan P ops Q S r (a.put o.dst (.slice (some ⟨w.heap.size,0,none⟩) n n)) w'):wpPlan P ops Q S (.sole i r) a w:=by
 refine wpOp_at ho hw ?_
 obtain ⟨w',hrun,r1,r2⟩:=run_make_full (P:=P) w base t e ti z size h1 h2 h3 h4 kl kc n b2 b3 b4
 unfold Oper.wp
 simp [execOp,hop,hl,hc,hrun,Result.andThen]
 exact hK w' r1 r2
theorem plan_act (h:∀ a0,a0=a→wpPlan P ops Q S p a0 w):wpPlan P ops Q S p a w:=h a rfl
theorem plan_lem (J:Act→World→Prop) (t:Plan) (h1:∀ a w,J a w→wpPlan P ops Q S t a w) (h2:(∀ a w,J a w→wpPlan P ops Q S t a w)→wpPlan P ops Q S p a w):wpPlan P ops Q S p a w:=h2 h1
def setA (a:Act) (l:List (Nat × Value)):Act:={ a with tmps:=l.foldl (fun t q=>t.setIfInBounds q.1 q.2) a.tmps }
end
end Sha
end Go.Proofs.YtplmfmpbkjnbaaaGreatDoor
namespace Go.Proofs.YtplmfmpbkjnbaaaGreatDoor
namespace Sha
open Go.ChangeShapes Go.WideShapes Go.ChangeAt Go.WideMaps Go.WideElems Go.RowKit Mem
theorem own:ownKnob Tryz.prog.godebug=none:=by kernel_rfl
theorem laidOut:laidOutB Tryz.prog=true:=by kernel_rfl
theorem trodAll_below {H:Type} {enc:TypeId × Value→H} {P:Program} (hl:laidOutB P=true) {W W':World} (hb:Below W.heap.size W W') :
 ∀ {ts:List TypeId} {vs:List Value} {ds:List (DataW H)} {ps:List MemPlace},ts.all (fun t=>P.readableRec t && decide (t < P.types.size))=true→DataW.TrodAll enc P W 0 (fun _=>true) true ts vs ds ps →
  DataW.TrodAll enc P W' 0 (fun b=>decide (b < W.heap.size)) true ts vs ds ps
 | [],[],[],_,_,h=>h
 | t::ts,v::vs,d::ds,ps,hr,h=>by
  have hlt:=DataW.TrodAll.lt h
  obtain ⟨p,q,h1,h2,e⟩:=h
  simp only [List.all_cons,Bool.and_eq_true,decide_eq_true_eq] at hr
  exact ⟨p,q,Below.trod hl hr.1.1 hr.1.2 h1 hb (fun x hx=>hlt x (by rw [e];simp [hx])),trodAll_below hl hb hr.2 h2,e⟩
 | [],[],_::_,_,_,h=>h.elim
 | [],_::_,_,_,_,h=>by cases ‹List (DataW H)› <;> exact h.elim
 | _::_,[],_,_,_,h=>by cases ‹List (DataW H)› <;> exact h.elim
 | _::_,_::_,[],_,_,h=>h.elim
theorem trodAll_len {H:Type} {enc:TypeId × Value→H} {P:Program} {w:World} {base:Nat} {sp:Nat→Bool} {held:Bool}:∀ {ts:List TypeId} {vs:List Value} {ds:List (DataW H)} {ps:List MemPlace},DataW.TrodAll enc P w base sp held ts vs ds ps→ds.length=ts.length
 | [],[],[],_,_=>rfl
 | _::_,_::_,_::_,_,h=>by
  obtain ⟨_,_,_,h2,_⟩:=h
  simp [trodAll_len h2]
 | [],[],_::_,_,h=>h.elim
 | [],_::_,ds,_,h=>by cases ds <;> exact h.elim
 | _::_,[],ds,_,h=>by cases ds <;> exact h.elim
 | _::_,_::_,[],_,h=>h.elim
def LawTrue (f:FuncId) (args:Array Value) (W:World):Prop:=Calls Tryz.prog f args W fun e w'=>e=.returned (.bool true)∧Below W.heap.size W w'
set_option maxRecDepth 100000 in
theorem law_lift_of (laidL:List (String × DataW Unit)) (T:World→Prop) (tabsT:∀ {W:World},laidMetH Tryz.prog laidL W→T W) {f:FuncId} {fn:Func} {s:ChangeSpec} (hvars:s.vars=[]) (hres:fn.resultTypes=#[4]) (hread:fn.params.toList.all (fun t=>Tryz.prog.readableRec t && decide (t < Tryz.prog.types.size))=true)
 (hs:∀ (H:Type) (ds:List (DataW H)),ds.length=fn.params.size→s.fn H ds={ results:=[.lit (.bool true)],args:=ds }) (noInit:Tryz.checked.prog.inits.idxOf? f=none) (hfn:Tryz.prog.funcs[f]?=some fn)
 (os:Os) (started:os.Started) (H:Type) (enc:TypeId × Value→H) (wargs:Array Value) (fuel:Nat)
 (hok:Input.okWideB Tryz.prog ((World.doorLaid Tryz.prog 4000 os).forCall (fun _ _=>0) ⟨#[],wargs,[]⟩) f ⟨#[],wargs,[]⟩=true)
 (hpre:s.preB enc Tryz.prog fn [] false ((World.doorLaid Tryz.prog 4000 os).forCall (fun _ _=>0) ⟨#[],wargs,[]⟩).memory wargs fuel=true)
 (hsz:s.sizedB enc Tryz.prog fn false ((World.doorLaid Tryz.prog 4000 os).forCall (fun _ _=>0) ⟨#[],wargs,[]⟩).memory wargs fuel=true)
 (hsh:((World.doorLaid Tryz.prog 4000 os).forCall (fun _ _=>0) ⟨#[],wargs,[]⟩).Shaped Tryz.prog)
 (hdoor:laidMetH Tryz.prog laidL ((World.doorLaid Tryz.prog 4000 os).forCall (fun _ _=>0) ⟨#[],wargs,[]⟩).memory)
 (hos:(World.doorLaid Tryz.prog 4000 os).os=os)
 (contract:∀ (W:World) (base:Nat) (args:Array Value) (ds:List (DataW H)) (p:List MemPlace),(∀ (j:Nat) t v,fn.params[j]?=some t→args[j]?=some v→Value.okWide Tryz.prog W .any base t v) →
  DataW.TrodAll enc Tryz.prog W 0 (fun _=>true) true fn.params.toList args.toList ds p→T W→LawTrue f args W) :
 ReturnsInHanded {} Tryz.checked os f .any (fun w args=>(s.pre enc Tryz.prog fn [] false w args∧laidMetH Tryz.prog laidL w)∧sizedMet enc Tryz.prog fn (OpenSpec.ofChange s) false w args) (s.post enc Tryz.prog fn false true false false):=by
 refine returnsInHanded_of_change_and (C:=Tryz.checked) (X:=fun w _=>laidMetH Tryz.prog laidL w) (fun _ _ _ hh h=>h.of_heap hh) own started noInit hfn
  (ChangeSpec.witness_shaped (enc:=enc) (C:=Tryz.checked) (os:=os) (X:=fun w _=>laidMetH Tryz.prog laidL w) false (World.doorLaid Tryz.prog 4000 os) wargs fuel hos hsh hok hpre hsz hdoor) ?_
 intro W base args ds gs before hval hW _ _ hL _
 have hW':=hW
 obtain ⟨p,q,hA,hV,rfl,_,_⟩:=hW
 rw [hvars] at hV
 obtain ⟨rfl,rfl⟩:=trodVars_none hV
 refine (contract W base args ds p hval hA (tabsT hL)).mono fun e W' ⟨he,hb⟩=>?_
 subst he
 have hsd:=hs H ds (by rw [trodAll_len hA];simp)
 refine ⟨_,rfl,ds,[],p++[],[],p,[],hW',?_,?_,?_,hb.frame _,fun h=>by cases h⟩
 ·rw [List.append_nil,hsd,hres];exact trodAll_cons_mk (shut_bool Tryz.underlying4 _) trodAll_mk0
 ·rw [List.append_nil,hsd];exact trodAll_below laidOut hb hread hA
 ·rw [List.append_nil,hsd,hvars];rfl
end Sha
end Go.Proofs.YtplmfmpbkjnbaaaGreatDoor
