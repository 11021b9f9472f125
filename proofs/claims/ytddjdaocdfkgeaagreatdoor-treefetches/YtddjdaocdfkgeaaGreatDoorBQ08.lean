/- My own texts, merged. -/
import Derived.Test.YtddjdaocdfkgeaaGreatDoorBQ01
import Derived.Test.YtddjdaocdfkgeaaGreatDoorBQ00
import Derived.Laws.CopyRow
import Derived.Laws.IdiomCopy
set_option maxRecDepth 100000
set_option maxHeartbeats 1000000
namespace Go.Proofs.YtddjdaocdfkgeaaGreatDoor
namespace Sha
open Go.RowKit Mem
theorem same_any (l m:Lb8) (vl vm:Value) (w:World) (hl:Sl w vl l) (hm:Sl w vm m) (_bl:l.length≤9223372036854775807) (bm:m.length≤9223372036854775807) :
 Calls Tryz.prog 19 #[vl,vm] w fun e w'=>e=.returned (.bool (sameB l m))∧Below w.heap.size w w':=by
 have hl0:=hl
 have hm0:=hm
 obtain ⟨a1,c1,rfl,hc1,_⟩:=hl
 obtain ⟨a2,c2,rfl,hc2,_⟩:=hm
 obtain ⟨n,hn⟩:∃ n,n=l.length:=⟨_,rfl⟩
 obtain ⟨k,hk⟩:∃ k,k=m.length:=⟨_,rfl⟩
 have HL:=zh hl0;have HM:=zh hm0
 clear hl0 hm0
 by_cases hne:n≠k
 ·have hs:=sameB_len l m (by omega)
  rw [hs]
  rw [←hn,←hk]
  have hne':¬ (n:Int)=(k:Int):=by omega
  rw [←hn] at _bl;rw [←hk] at bm
  clear hs hn hk hc1 hc2 hne HL HM
  go_enter Tryz.func19,Tryz.ntmps19
  go_wp2
  go_ret
  exact ⟨rfl,Below.refl _ _⟩
 ·have hnk:n=k:=by omega
  subst hnk
  rw [←hn] at hc1 _bl
  rw [←hk] at hc2 bm
  have heq:(n:Int)=(n:Int):=rfl
  have HN:=zh hn;have HK:=zh hk
  rw [←hn,←hk]
  clear hn hk hne heq
  go_enter Tryz.func19,Tryz.ntmps19
  go_wp2
  go_loopw [5] (fun i wr=>∃ j:Nat,j≤n∧i=.int .i64 j∧l.take j=m.take j∧∃ q,wr=w.drewN q) (fun i _=>n - (intOf i).toNat)
  case atStart=>exact ⟨0,Nat.zero_le _,rfl,rfl,0,rfl⟩
  case round=>
   obtain ⟨j,hj,rfl,htk,q,rfl⟩:=hrel
   have HT:=zh htk;clear htk
   by_cases hlt:j < n
   ·obtain ⟨b1,o1,rfl,cl⟩:=sl_at (i:=j) HL.out (by rw [←HN.out];exact hlt)
    obtain ⟨b2,o2,rfl,cm⟩:=sl_at (i:=j) HM.out (by rw [←HK.out];exact hlt)
    have z0:(0:Int)≤(j:Int):=by omega
    have zn:(j:Int) < (n:Int):=by omega
    by_cases hxy:l.getD j 0=m.getD j 0
    ·have htn:=take_next l m j (by rw [←HN.out];exact hlt) (by rw [←HK.out];exact hlt) HT.out hxy
     rw [←hxy] at cm
     obtain ⟨x,hx⟩:∃ x,x=l.getD j 0:=⟨_,rfl⟩
     rw [←hx] at cl cm
     have HTN:=zh htn
     clear hxy hx htn
     go_wp2
     go_quiet (fail)
     go_wp2
     go_roundw
     case rel=>exact ⟨j+1,by omega,by go_num,HTN.out,_,rfl⟩
     case measure=>simp [intOf];omega
    ·have hs:=sameB_at l m j hxy
     obtain ⟨x,hx⟩:∃ x,x=l.getD j 0:=⟨_,rfl⟩
     obtain ⟨y,hy⟩:∃ y,y=m.getD j 0:=⟨_,rfl⟩
     rw [←hx] at cl hxy
     rw [←hy] at cm hxy
     have hbn:(B8 x != B8 y)=true:=by
      rw [bne_iff_ne];exact fun e=>hxy (B8_inj e)
     have hbe:¬ B8 x=B8 y:=fun e=>hxy (B8_inj e)
     have HS:=zh hs
     clear hs hx hy hxy
     go_wp2
     go_quiet (fail)
     go_wp2
     go_ret
     exact ⟨by rw [HS.out];rfl,⟨rfl,rfl,rfl,Nat.le_refl _,fun _ _=>rfl⟩⟩
   ·have hjn:j=n:=by omega
    have hge:¬ (j:Int) < (n:Int):=by omega
    have hs:Hid (sameB l m=true):=by
     have h:=HT.out
     rw [hjn,HN.out,List.take_length] at h
     have h2:l.length=m.length:=by rw [←HN.out,←HK.out]
     rw [h2,List.take_length] at h
     show sameB l m=true
     rw [h];exact sameB_self m
    clear hjn hlt
    go_wp2
    go_ret
    exact ⟨by rw [hs.out];rfl,⟨rfl,rfl,rfl,Nat.le_refl _,fun _ _=>rfl⟩⟩
def laidB (b:Lb8) (k:Nat) (x:Lb8):Lb8:=b.take k++x++b.drop (k+x.length)
theorem laidL_length (b:Lb8) (k:Nat) (x:Lb8) (h:k+x.length≤b.length):(laidB b k x).length=b.length:=by simp [laidB];omega
theorem splice_laid (b:Lb8) (k:Nat) (x:Lb8):Mem.splice (u8s b).toArray k (u8s x)=(u8s (laidB b k x)).toArray:=by
 unfold Mem.splice laidB u8s
 simp [List.map_take,List.map_drop]
theorem plan_copy_sl {ops:Array Oper} {Q:Exit→Act→World→Prop} {S:World→Prop} {w:World} {a:Act} {o:Oper} {i:Nat} {r:Plan} (x y:Operand) (ho:ops.toList[i]?=some o) (hw:Region.wanted o (yielded ops a.tmps)=true)
 (hop:o.op=.call { callee:=.builtin .copy,args:=#[x,y],argTypes:=#[40,40] }) (b p dLen dCap:Nat) (vy:Value) (l m:Lb8) (hx:a.eval x=.slice (some ⟨b,p,none⟩) dLen dCap) (hy:a.eval y=vy) (hl:Sl w vy l) (hne:l≠[])
 (hk:l.length≤dLen) (hC:At w b (u8s m).toArray 5) (hfit:p+l.length≤m.length)
 (h:∀ w',At w' b (u8s (laidB m p l)).toArray 5→w'.heap.size=w.heap.size→(∀ k,k≠b→w'.heap[k]?=w.heap[k]?)→(∀ B a,Below B a w→B≤b→Below B a w')→S w'∧wpPlan Tryz.prog ops Q S r (a.put o.dst (.int .i64 (l.length:Int))) w'):wpPlan Tryz.prog ops Q S (.sole i r) a w:=by
 obtain ⟨a0,cap,rfl,_,hr⟩:=hl
 obtain ⟨bb,oo,rfl,_,hc⟩:=hr hne
 have hlen:(u8s l).length=Nat.min l.length dLen:=by rw [u8s_length];exact (Nat.min_eq_left hk).symm
 have hrun:=run_copy_row (P:=Tryz.prog) w 40 40 o.type 5 b p dLen dCap ⟨bb,oo,none⟩ l.length cap (u8s m).toArray 5 (u8s l) Tryz.underlying40 infoB hC hlen (fun j v hj=>by
  have hjk:j < l.length:=by
   have:=(List.getElem?_eq_some_iff.1 hj).1
   rwa [u8s_length] at this
  rw [Addr.add_mid,hc j hjk,←hj,u8s_get _ _ hjk]) (by rw [u8s_length];simpa [u8s] using hfit) (u8s_cells l)
 refine wpOp_at ho hw ?_
 unfold Oper.wp execOp
 simp only [hop,resolve,invoke,builtin,Sem.run_bind,Sem.run_pure,Result.andThen_ok,List.map_toArray,List.map_cons,List.map_nil,hx,hy,hrun]
 have e:((u8s m).take p++u8s l++(u8s m).drop (p+(u8s l).length)).toArray=(u8s (laidB m p l)).toArray:=by
  rw [←splice_laid,Mem.splice]
 rw [e]
 have hE:goInt (u8s l).length=.int .i64 (l.length:Int):=by rw [u8s_length];rfl
 rw [hE]
 exact h _ (hC.row _) (by simp) (fun k hk=>setRow_other w b k _ hk) (fun B a hb hB=>below_row hb hB _)
theorem plan_copy_row {ops:Array Oper} {Q:Exit→Act→World→Prop} {S:World→Prop} {w:World} {a:Act} {o:Oper} {i:Nat} {r:Plan} (x y:Operand) (ho:ops.toList[i]?=some o) (hw:Region.wanted o (yielded ops a.tmps)=true)
 (hop:o.op=.call { callee:=.builtin .copy,args:=#[x,y],argTypes:=#[40,40] }) (g p:Nat) (C:Array Value) (t:TypeId) (vy:Value) (l:Lb8) (hx:a.eval x=.slice (some ⟨g,p,none⟩) 32 32) (hy:a.eval y=vy) (hl:Sl w vy l) (h32:l=[]∨l.length=32)
 (hC:At w g C t) (hfit:p+32≤C.size) (C':Array Value) (hC':(if l=[] then C else (C.toList.take p++u8s l++C.toList.drop (p+32)).toArray)=C')
 (h:∀ n w',At w' g C' t→(∀ k,k≠g→w'.heap[k]?=w.heap[k]?)→(∀ B a,Below B a w→B≤g→Below B a w')→S w'∧wpPlan Tryz.prog ops Q S r (a.put o.dst n) w'):wpPlan Tryz.prog ops Q S (.sole i r) a w:=by
 obtain ⟨a0,cap,rfl,_,hr⟩:=hl
 refine wpOp_at ho hw ?_
 unfold Oper.wp execOp
 by_cases hne:l=[]
 ·subst hne
  rw [if_pos rfl] at hC'
  subst hC'
  have hrun:=run_copy_none (P:=Tryz.prog) w 40 40 o.type 5 (some ⟨g,p,none⟩) a0 32 32 0 cap Tryz.underlying40 infoB (by simp)
  simp only [hop,resolve,invoke,builtin,Sem.run_bind,Sem.run_pure,Result.andThen_ok,List.map_toArray,List.map_cons,List.map_nil,hx,hy,List.length_nil,hrun]
  exact h _ _ hC (fun _ _=>rfl) (fun _ _ hb _=>hb)
 ·rw [if_neg hne] at hC'
  have hl32:l.length=32:=by rcases h32 with h | h;exact absurd h hne;exact h
  obtain ⟨bb,oo,rfl,_,hc⟩:=hr hne
  have hrun:=run_copy_row (P:=Tryz.prog) w 40 40 o.type 5 g p 32 32 ⟨bb,oo,none⟩ l.length cap C t (u8s l) Tryz.underlying40 infoB hC (by rw [u8s_length,hl32];rfl) (fun j v hj=>by
   have hjk:j < l.length:=by
    have:=(List.getElem?_eq_some_iff.1 hj).1
    rwa [u8s_length] at this
   rw [Addr.add_mid,hc j hjk,←hj,u8s_get _ _ hjk]) (by rw [u8s_length,hl32];exact hfit) (u8s_cells l)
  have e:(u8s l).length=32:=by rw [u8s_length];exact hl32
  rw [e,hC'] at hrun
  simp only [hop,resolve,invoke,builtin,Sem.run_bind,Sem.run_pure,Result.andThen_ok,List.map_toArray,List.map_cons,List.map_nil,hx,hy,hrun]
  exact h _ _ (hC.row _) (fun k hk=>setRow_other w g k _ hk) (fun B a hb hB=>below_row hb hB _)
end Sha
end Go.Proofs.YtddjdaocdfkgeaaGreatDoor
