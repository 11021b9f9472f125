/- A map whose keys are ints, its values known one by one: made, looked up, stored into, deleted from, counted. Over any program. -/
import Derived.Maps.OwnSet
import Derived.Lib.SlKeysI
import Derived.Test.YtlhnegbjoncieaaGreatDoorBL04
import Derived.Test.YtlhnegbjoncieaaGreatDoorBL06
namespace Go.Proofs.YtlhnegbjoncieaaGreatDoor
namespace Mem
open Go.RowKit Go.Maps
def heldR (v:Value):Option (DataW Value × List MemPlace):=some (.held v,[])
abbrev wfI (x:Int):Prop:=(Lit.int .i64 x).wf=true
def upd (f:Int→Option Value) (x:Int) (o:Option Value):Int→Option Value:=fun y=>if y=x then o else f y
theorem upd_same (f:Int→Option Value) (x:Int) (o:Option Value):upd f x o x=o:=by simp [upd]
theorem upd_other (f:Int→Option Value) {x y:Int} (o:Option Value) (h:y≠x):upd f x o y=f y:=by simp [upd,h]
def MapV (w:World) (P:Program) (k:TypeId) (b n:Nat) (f:Int→Option Value):Prop:=
 ∃ D:DataW Value,w.ownsMap P k heldR b n D∧(∀ x:Int,wfI x→has D (.int .i64 x)=(f x).isSome∧∀ z,D.atKey (.int .i64 x) z=(match f x with | some v=>.held v | none=>z))∧∀ x,f x≠none→wfI x
section
variable {w:World} {P:Program} {k:TypeId} {b n:Nat} {f:Int→Option Value}
theorem MapV.lt (h:MapV w P k b n f):b < w.heap.size:=let ⟨_,ho,_⟩:=h;ho.lt
theorem mapV_made (w:World) (P:Program) (k:TypeId):MapV (w.alloc (.map #[] 0)) P k w.heap.size 0 (fun _=>none):=
 ⟨_,World.ownsMap_made w P k heldR,fun x _=>⟨by simp [has],fun z=>by simp [DataW.atKey]⟩,fun x h=>absurd rfl h⟩
theorem MapV.same {w':World} (h:MapV w P k b n f) (hb:w'.heap[b]?=w.heap[b]?):MapV w' P k b n f:=by
 obtain ⟨D,⟨es,clock,h1,h2⟩,hr⟩:=h
 exact ⟨D,⟨es,clock,hb.trans h1,h2⟩,hr⟩
theorem MapV.below {w':World} {B:Nat} (h:MapV w P k b n f) (hb:Below B w w') (hlt:b < B):MapV w' P k b n f:=h.same (hb.block b hlt)
theorem MapV.chg {w':World} {F:Foot} (h:MapV w P k b n f) (hc:Chg F w w') (hn:¬ F b):MapV w' P k b n f:=h.same (hc.block b h.lt hn)
theorem MapV.alloc (h:MapV w P k b n f) (o:Obj):MapV (w.alloc o) P k b n f:=by
 obtain ⟨D,ho,hr⟩:=h
 exact ⟨D,ho.alloc o,hr⟩
theorem MapV.drew (h:MapV w P k b n f):MapV w.drew P k b n f:=h
theorem MapV.mono {m:Nat} (h:MapV w P k b n f) (hm:n≤m):MapV w P k b m f:=by
 obtain ⟨D,⟨es,clock,h1,h2,h3,h4⟩,hr⟩:=h
 exact ⟨D,⟨es,clock,h1,h2,Nat.le_trans h3 hm,h4⟩,hr⟩
theorem MapV.ext {g:Int→Option Value} (h:MapV w P k b n f) (he:∀ x,f x=g x):MapV w P k b n g:=by
 have:f=g:=funext he
 rw [←this];exact h
theorem MapV.ne_at {c:Nat} {C:Array Value} {t:TypeId} (h:MapV w P k b n f) (hk:At w c C t):b≠c:=by
 rintro rfl
 obtain ⟨D,⟨es,clock,h1,_⟩,_⟩:=h
 unfold At at hk
 rw [h1] at hk
 injection hk with hk
 injection hk
theorem MapV.ne_own {B z m:Nat} {e:TypeId} {v:Value} {ys:List Value} (h:MapV w P k b n f) (hk:w.ownsRow B e z v m ys):v.ownBlock≠some b:=by
 rcases hk.2 with ⟨rfl,_⟩ | ⟨g,cap,cur,rfl,hg,hh,hr⟩
 ·simp [Value.ownBlock]
 ·intro e
  have:g=b:=by simpa [Value.ownBlock] using e
  subst this
  obtain ⟨D,⟨es,clock,h1,_⟩,_⟩:=h
  rw [h1] at hh
  injection hh with hh
  injection hh
theorem MapV.cell (h:MapV w P k b n f) (o:Nat):w.cell? ⟨b,o,none⟩=none:=by
 obtain ⟨D,⟨es,clock,h1,_⟩,_⟩:=h
 simp [World.cell?,h1]
theorem MapV.keys (h:MapV w P k b n f) (hk:P.underlying k=some (.int .i64)) {ks:List Int} (hnd:ks.Nodup) (hm:∀ x,x∈ks ↔ (f x).isSome=true):∃ D:DataW Value,w.ownsMap P k heldR b n D∧ks.Perm (intKeys D)∧Maps.size D=ks.length:=by
 obtain ⟨D,ho,hr,hw⟩:=h
 obtain ⟨es,hD,hpw,_⟩:=ho.entries (int_keyed hk)
 obtain ⟨es',hD',hko⟩:=ho.keysOf
 obtain rfl:es=es':=by rw [hD] at hD';simpa using hD'
 have hint:∀ p∈es,∃ x,p.1=.int .i64 x∧wfI x:=fun p hp=>by
  obtain ⟨v,hv⟩:=hko p hp
  obtain ⟨x,_,hx,hl⟩:=Maps.keyOf_i64 hk hv
  exact ⟨x,hx,hl⟩
 have hkeys:∀ x,x∈ks ↔ has (.map es) (.int .i64 x)=true:=fun x=>by
  rw [hm x]
  by_cases hx:wfI x
  ·have h1:=(hr x hx).1
   rw [hD] at h1
   rw [h1]
  ·have h0:f x=none:=by
    cases hf:f x with
    | none=>rfl
    | some v=>exact absurd (hw x (by rw [hf];simp)) hx
   rw [h0]
   simp only [Option.isSome_none,Bool.false_eq_true,false_iff]
   intro hh
   rw [has_eq,List.any_eq_true] at hh
   obtain ⟨p,hp,hs⟩:=hh
   obtain ⟨y,hy,hl⟩:=hint p hp
   rw [hy] at hs
   have:y=x:=by simpa [Lit.sameKey] using hs
   exact hx (this ▸ hl)
 have hp:=perm_intKeys hpw (fun p hp=>by obtain ⟨x,hx,_⟩:=hint p hp;exact ⟨x,hx⟩) hnd hkeys
 refine ⟨D,ho,by rw [hD];exact hp,?_⟩
 rw [hD,Maps.size_eq,hp.length_eq]
 simp [intKeys]
theorem MapV.size (h:MapV w P k b n f) (hk:P.underlying k=some (.int .i64)) {ks:List Int} (hnd:ks.Nodup) (hm:∀ x,x∈ks ↔ (f x).isSome=true):∃ D:DataW Value,w.ownsMap P k heldR b n D∧Maps.size D=ks.length:=
 let ⟨D,h1,_,h2⟩:=h.keys hk hnd hm
 ⟨D,h1,h2⟩
theorem MapV.look {t e:TypeId} (h:MapV w P k b n f) (hk:P.underlying k=some (.int .i64)) (ht:P.underlying t=some (.map k e)) {z:Value} (hz:(zeroValue e).run P w=.ok z w) {x:Int} (hx:wfI x) :
 (Instr.lookup t (.map (some b)) (.int .i64 x) false).run P w=.ok ((f x).getD z) w:=by
 obtain ⟨D,ho,hr,_⟩:=h
 obtain ⟨v,ps,hrun,hv⟩:=ho.lookup (int_keyed hk) ht hz (show heldR z=some (.held z,[]) from rfl) (keyOf_int_mk hk hx)
 rw [(hr x hx).2] at hv
 rw [hrun]
 congr 1
 unfold heldR at hv
 cases hf:f x with
 | none=>rw [hf] at hv;simp at hv;simp [hv]
 | some u=>rw [hf] at hv;simp at hv;simp [hv]
theorem mapTurned_chg {w':World} (h:w.mapTurned w' b):Chg (fun x=>x=b) w w'∧w'.heap.size=w.heap.size:=by
 have hg:=h.grown
 refine ⟨⟨hg.os,hg.tape,hg.output,hg.size,fun x hx hne=>hg.block x hx (fun e=>hne (by simpa using e))⟩,?_⟩
 obtain ⟨es,clock,es',clock',_,rfl⟩:=h
 simp [ChangeMaps.setBlock]
theorem MapV.put {t e:TypeId} (h:MapV w P k b n f) (hk:P.underlying k=some (.int .i64)) (ht:P.underlying t=some (.map k e)) (hl:n < maxLen) (v:Value) {x:Int} (hx:wfI x) :
 ∃ w',(Instr.mapUpdate t (.map (some b)) (.int .i64 x) v).run P w=.ok () w'∧MapV w' P k b (n+1) (upd f x (some v))∧Chg (fun x=>x=b) w w'∧w'.heap.size=w.heap.size:=by
 obtain ⟨D,ho,hr,hw⟩:=h
 obtain ⟨w',hrun,ho',hturn⟩:=ho.store (int_keyed hk) ht hl (keyOf_int_mk hk hx) (show heldR v=some (.held v,[]) from rfl)
 obtain ⟨h1,h2⟩:=mapTurned_chg hturn
 refine ⟨w',hrun,⟨_,ho',fun c hc=>?_,fun c hc=>?_⟩,h1,h2⟩
 ·by_cases hca:c=x
  ·subst hca
   have hkl:WideAt.IsKeyLit (.int .i64 c):=(int_keyed hk).key (keyOf_int_mk hk hx)
   exact ⟨by rw [has_put_same ho.isMap hkl,upd_same];rfl,fun z=>by rw [atKey_put_same ho.isMap hkl,upd_same]⟩
  ·have hne:Lit.int .i64 c≠Lit.int .i64 x:=fun e=>hca (by injection e)
   exact ⟨by rw [has_put_other hne,(hr c hc).1,upd_other _ _ hca],fun z=>by rw [atKey_put_other hne,(hr c hc).2 z,upd_other _ _ hca]⟩
 ·by_cases hca:c=x
  ·subst hca;exact hx
  ·rw [upd_other _ _ hca] at hc;exact hw c hc
theorem MapV.drop {t e:TypeId} (h:MapV w P k b n f) (hk:P.underlying k=some (.int .i64)) (ht:P.underlying t=some (.map k e)) (ty:TypeId) {x:Int} (hx:wfI x) :
 ∃ w',(Builtin.delete_ #[t,k] ty #[.map (some b),.int .i64 x]).run P w=.ok (.tuple #[]) w'∧MapV w' P k b n (upd f x none)∧Chg (fun x=>x=b) w w'∧w'.heap.size=w.heap.size:=by
 obtain ⟨D,ho,hr,hw⟩:=h
 obtain ⟨w',hrun,ho',hturn⟩:=ho.drop (int_keyed hk) ht (keyOf_int_mk hk hx) ty
 obtain ⟨h1,h2⟩:=mapTurned_chg hturn
 refine ⟨w',hrun,⟨_,ho',fun c hc=>?_,fun c hc=>?_⟩,h1,h2⟩
 ·by_cases hca:c=x
  ·subst hca
   exact ⟨by rw [has_del_same,upd_same];rfl,fun z=>by rw [atKey_del_same,upd_same]⟩
  ·have hne:Lit.int .i64 c≠Lit.int .i64 x:=fun e=>hca (by injection e)
   exact ⟨by rw [has_del_other hne,(hr c hc).1,upd_other _ _ hca],fun z=>by rw [atKey_del_other hne,(hr c hc).2 z,upd_other _ _ hca]⟩
 ·by_cases hca:c=x
  ·subst hca;exact absurd (upd_same f c none) hc
  ·rw [upd_other _ _ hca] at hc;exact hw c hc
theorem MapV.len {t e:TypeId} (h:MapV w P k b n f) (hk:P.underlying k=some (.int .i64)) (ht:P.underlying t=some (.map k e)) (ty:TypeId) {ks:List Int} (hnd:ks.Nodup) (hm:∀ x,x∈ks ↔ (f x).isSome=true) :
 (Builtin.len_ #[t] ty #[.map (some b)]).run P w=.ok (.int .i64 (ks.length:Int)) w:=by
 obtain ⟨D,ho,hs⟩:=h.size hk hnd hm
 rw [ho.len ht ty,hs]
end
section
variable {P:Program} {k:TypeId} {b n:Nat} {f:Int→Option Value} {ops:Array Oper} {rest:List Oper} {o:Oper} {a:Act} {w:World} {Q:Exit→Act→World→Prop} {S:World→Prop} {i:Nat} {r:Plan}
theorem wpList_mapV_made (hw:Region.wanted o (yielded ops a.tmps)=true) (t:TypeId) (hop:o.op=.makeMap t none)
 (h:wpList P ops Q rest (a.put o.dst (.map (some w.heap.size))) (w.alloc (.map #[] 0))):wpList P ops Q (o::rest) a w:=by
 unfold wpList
 rw [if_pos hw]
 left
 unfold Oper.wp
 have:(execOp a.eval o).run P w=.ok (.value (.map (some w.heap.size))) (w.alloc (.map #[] 0)):=by
  simp [execOp,hop,run_makeMap,Result.andThen]
 rw [this]
 exact h
theorem wpList_mapV_look (hw:Region.wanted o (yielded ops a.tmps)=true) (t:TypeId) (m x:Operand) (hop:o.op=.lookup t m x false) (e:TypeId) (hs:MapV w P k b n f) (c:Int)
 (hm:a.eval m=.map (some b)) (hx:a.eval x=.int .i64 c) (hk:P.underlying k=some (.int .i64)) (ht:P.underlying t=some (.map k e)) (z:Value)
 (hz:(zeroValue e).run P w=.ok z w) (hc:wfI c) (u:Value) (hu:(f c).getD z=u) (h:wpList P ops Q rest (a.put o.dst u) w):wpList P ops Q (o::rest) a w:=by
 rw [←hu] at h
 unfold wpList
 rw [if_pos hw]
 left
 unfold Oper.wp
 have:(execOp a.eval o).run P w=.ok (.value ((f c).getD z)) w:=by
  simp [execOp,hop,hm,hx,hs.look hk ht hz hc,Result.andThen]
 rw [this]
 exact h
theorem wpList_mapV_put (hw:Region.wanted o (yielded ops a.tmps)=true) (t:TypeId) (m x y:Operand) (hop:o.op=.mapUpdate t m x y) (e:TypeId) (hs:MapV w P k b n f) (c:Int) (v:Value)
 (hm:a.eval m=.map (some b)) (hx:a.eval x=.int .i64 c) (hy:a.eval y=v) (hk:P.underlying k=some (.int .i64)) (ht:P.underlying t=some (.map k e)) (hl:n < maxLen)
 (hc:wfI c) (h:∀ w',MapV w' P k b (n+1) (upd f c (some v))→Chg (fun x=>x=b) w w'→w'.heap.size=w.heap.size→wpList P ops Q rest (a.put o.dst undef) w'):wpList P ops Q (o::rest) a w:=by
 unfold wpList
 rw [if_pos hw]
 left
 unfold Oper.wp
 obtain ⟨w',hrun,h1,h2,h3⟩:=hs.put hk ht hl v hc
 have:(execOp a.eval o).run P w=.ok .skip w':=by
  simp [execOp,hop,hm,hx,hy,hrun,Result.andThen]
 rw [this]
 exact h w' h1 h2 h3
end
end Mem
end Go.Proofs.YtlhnegbjoncieaaGreatDoor
