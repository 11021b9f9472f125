/- A copy into a row. -/
import Derived.Test.YtlhnegbjoncieaaGreatDoorBL07
import Derived.Laws.CopyRow
import Derived.Laws.IdiomCopy
namespace Go.Proofs.YtlhnegbjoncieaaGreatDoor
namespace Sha
open Go.RowKit Mem
theorem plan_copy_row {ops:Array Oper} {Q:Exit→Act→World→Prop} {S:World→Prop} {w:World} {a:Act} {o:Oper} {i:Nat} {r:Plan} (x y:Operand) (ho:ops.toList[i]?=some o) (hw:Region.wanted o (yielded ops a.tmps)=true)
 (hop:o.op=.call { callee:=.builtin .copy,args:=#[x,y],argTypes:=#[31,31] }) (g p:Nat) (C:Array Value) (t:TypeId) (vy:Value) (l:Lb8) (hx:a.eval x=.slice (some ⟨g,p,none⟩) 32 32) (hy:a.eval y=vy) (hl:Sl w vy l) (h32:l=[]∨l.length=32)
 (hC:At w g C t) (hfit:p+32≤C.size) (C':Array Value) (hC':(if l=[] then C else (C.toList.take p++u8s l++C.toList.drop (p+32)).toArray)=C')
 (h:∀ n w',At w' g C' t→(∀ k,k≠g→w'.heap[k]?=w.heap[k]?)→(∀ B a,Below B a w→B≤g→Below B a w')→S w'∧wpPlan Tryz.prog ops Q S r (a.put o.dst n) w'):wpPlan Tryz.prog ops Q S (.sole i r) a w:=by
 obtain ⟨a0,cap,rfl,_,hr⟩:=hl
 refine wpOp_at ho hw ?_
 unfold Oper.wp execOp
 by_cases hne:l=[]
 ·subst hne
  rw [if_pos rfl] at hC'
  subst hC'
  have hrun:=run_copy_none (P:=Tryz.prog) w 31 31 o.type 5 (some ⟨g,p,none⟩) a0 32 32 0 cap Tryz.underlying31 infoB (by simp)
  simp only [hop,resolve,invoke,builtin,Sem.run_bind,Sem.run_pure,Result.andThen_ok,List.map_toArray,List.map_cons,List.map_nil,hx,hy,List.length_nil,hrun]
  exact h _ _ hC (fun _ _=>rfl) (fun _ _ hb _=>hb)
 ·rw [if_neg hne] at hC'
  have hl32:l.length=32:=by rcases h32 with h | h;exact absurd h hne;exact h
  obtain ⟨bb,oo,rfl,_,hc⟩:=hr hne
  have hrun:=run_copy_row (P:=Tryz.prog) w 31 31 o.type 5 g p 32 32 ⟨bb,oo,none⟩ l.length cap C t (u8s l) Tryz.underlying31 infoB hC (by rw [u8s_length,hl32];rfl) (fun j v hj=>by
   have hjk:j < l.length:=by
    have:=(List.getElem?_eq_some_iff.1 hj).1
    rwa [u8s_length] at this
   rw [Addr.add_mid,hc j hjk,←hj,u8s_get _ _ hjk]) (by rw [u8s_length,hl32];exact hfit) (u8s_cells l)
  have e:(u8s l).length=32:=by rw [u8s_length];exact hl32
  rw [e,hC'] at hrun
  simp only [hop,resolve,invoke,builtin,Sem.run_bind,Sem.run_pure,Result.andThen_ok,List.map_toArray,List.map_cons,List.map_nil,hx,hy,hrun]
  exact h _ _ (hC.row _) (fun k hk=>setRow_other w g k _ hk) (fun B a hb hB=>below_row hb hB _)
end Sha
end Go.Proofs.YtlhnegbjoncieaaGreatDoor
