/- My own texts, merged. -/
import Derived.Test.YtlhnegbjoncieaaGreatDoorBL07
import Derived.Test.YtlhnegbjoncieaaGreatDoorBL05
import Derived.Laws.Tables
import Derived.Test.YtlhnegbjoncieaaGreatDoorBL06
import Derived.Test.YtlhnegbjoncieaaGreatDoorBL04
import Derived.OwnWalk
import Derived.Deep.DeepCutAuto
import Derived.Test.YtlhnegbjoncieaaGreatDoorBL09
import Derived.Lib.SliceRun
set_option maxRecDepth 100000
set_option maxHeartbeats 1000000
namespace Go.Proofs.YtlhnegbjoncieaaGreatDoor
namespace Sha
open Go.RowKit Mem
theorem zeroRfP (w:World):(zeroValue 38).run Tryz.prog w=.ok (.agg (refC zref)) w:=by kernel_rfl
theorem infoRfP:(Tryz.prog.info? 38).map (·.size)=some 34:=by kernel_rfl
theorem parts_ref {a b:RefV} (ha:a.Wf) (hb:b.Wf) (d:Nat) (w:World):(eqParts (d+2) (refC a) (refC b) [(true,3,0),(true,36,1),(true,22,2)]).run Tryz.prog w=.ok (sameRef a b) w:=by
 have e:sameRef a b=((a.pl == b.pl) && ((V a.ep == V b.ep) && ((a.dg == b.dg) && true))):=by simp [sameRef]
 rw [e]
 refine eqParts_cons (run_part_int w 3 .i64 Tryz.underlying3 (refC a) 0 _ (ref0 a)) (run_part_int w 3 .i64 Tryz.underlying3 (refC b) 0 _ (ref0 b)) (run_equalIn_int w (d+1) 3 .i64 .i64 _ _ Tryz.underlying3) ?_
 refine eqParts_cons (run_part_int w 36 .u32 Tryz.underlying36 (refC a) 1 _ (ref1 a)) (run_part_int w 36 .u32 Tryz.underlying36 (refC b) 1 _ (ref1 b)) (run_equalIn_int w (d+1) 36 .u32 .u32 _ _ Tryz.underlying36) ?_
 exact eqParts_cons (run_part_arr w _ _ 32 32 Tryz.underlying22 infoDg _ 2 _ (ref_dgRow ha)) (run_part_arr w _ _ 32 32 Tryz.underlying22 infoDg _ 2 _ (ref_dgRow hb)) (eq32 d _ _ ha.dg hb.dg w) rfl
theorem eqlRf (t : TypeId) (hf : (Tryz.prog.fieldsOf t).toList.map (fun f => (decide (f.name ≠ "_"), f.type, f.offset)) = [(true, 3, 0), (true, 36, 1), (true, 22, 2)])
 (hu:Tryz.prog.underlying t=some (.struct (Tryz.prog.fieldsOf t))) (hp:Tryz.prog.stoodInHeld t=false) (hg:Tryz.prog.eqGuardType Tryz.prog.depth t=false) {a b:RefV} (ha:a.Wf) (hb:b.Wf) (x y:Operand) (w:World) :
 (do eqGuard .eql t x y (.agg (refC a)) (.agg (refC b));binOp .eql t (.agg (refC a)) (.agg (refC b)):Sem Value).run Tryz.prog w=.ok (.bool (sameRef a b)) w ∧
 (do eqGuard .neq t x y (.agg (refC a)) (.agg (refC b));binOp .neq t (.agg (refC a)) (.agg (refC b)):Sem Value).run Tryz.prog w=.ok (.bool (!sameRef a b)) w:=by
 have h:=run_equalIn_agg w 9999 t (refC a) (refC b) hu hp
 rw [eqFields_parts,hf,parts_ref ha hb 9997 w] at h
 constructor
 ·rw [Sem.run_bind,run_eqGuard_agg w .eql t x y _ _ hg,Result.andThen_ok,run_eql_struct,h];rfl
 ·rw [Sem.run_bind,run_eqGuard_agg w .neq t x y _ _ hg,Result.andThen_ok,run_neq_struct,h];rfl
def SealEnd (w:World) (l:Lb8) (n:Int) (e:Ending) (w':World):Prop:=∃ v,e=.returned (.tuple #[v,.int .i64 n])∧Sl w' v l∧Below w.heap.size w w'
theorem sl_inv {w:World} {v:Value} {l:Lb8} (h:Sl w v l):∃ a c,v=.slice a l.length c:=let ⟨a,c,e,_⟩:=h;⟨a,c,e⟩
theorem ret_tmp_row_tmp {P:Program} {fn:Func} {R:Ending→World→Prop} {tmps:Array Value} {w:World} {q p u:Tmp} {ty:TypeId} (h:fn.results=#[.tmp q,.cell p ty,.tmp u]) (g:Nat) (t:TypeId) (cs:Array Value) (d:TypeDesc) (v1 v:Value)
 (hq:tmps.getD q undef=v1) (hp:tmps.getD p undef=.pointer (some ⟨g,0,none⟩)) (hv:tmps.getD u undef=v) (hg:At w g cs t) (hu:P.underlying ty=some d) (hd:d.isRow=true) (hi:(P.info? ty).map (·.size)=some cs.size)
 (hR:R (.returned (.tuple #[v1,.agg cs,v])) w):bodyPost P fn R .ret ⟨tmps,[]⟩ w:=by
 refine bodyPost_ret (v:=.tuple #[v1,.agg cs,v]) ?_ rfl hR
 have hrow:=run_loadVar_row (P:=P) w g t ty cs (0,0) d hg hu (by cases d <;> first | rfl | exact hd) hi
 rw [Array.getD_eq_getD_getElem?] at hq hp hv
 simp only [results,h]
 simp [Result.andThen,hq,hp,hv,asAddr,hrow]
def ThreeEnd (w:World) (l:Lb8) (r:RefV) (n:Int) (e:Ending) (w':World):Prop:=∃ v,e=.returned (.tuple #[v,.agg (refC r),.int .i64 n])∧Sl w' v l∧Below w.heap.size w w'
def ThreeOwn (w:World) (l:Lb8) (r:RefV) (n:Int) (e:Ending) (w':World):Prop:=∃ v,e=.returned (.tuple #[v,.agg (refC r),.int .i64 n])∧OwnB w' w.heap.size v l∧Below w.heap.size w w'
theorem ThreeOwn.three {w w':World} {l:Lb8} {r:RefV} {n:Int} {e:Ending} (h:ThreeOwn w l r n e w'):ThreeEnd w l r n e w':=let ⟨v,e,hs,hb⟩:=h;⟨v,e,OwnB.sl hs,hb⟩
theorem buildPf0 (w:World):(Instr.build 38 #[]).run Tryz.prog w=.ok (.agg (refC zref)) w:=run_build w _ _ _ (by kernel_rfl)
def laidB (b:Lb8) (k:Nat) (x:Lb8):Lb8:=b.take k++x++b.drop (k+x.length)
theorem laidL_length (b:Lb8) (k:Nat) (x:Lb8) (h:k+x.length≤b.length):(laidB b k x).length=b.length:=by simp [laidB];omega
theorem splice_laid (b:Lb8) (k:Nat) (x:Lb8):Mem.splice (u8s b).toArray k (u8s x)=(u8s (laidB b k x)).toArray:=by
 unfold Mem.splice laidB u8s
 simp [List.map_take,List.map_drop]
theorem plan_copy_sl {ops:Array Oper} {Q:Exit→Act→World→Prop} {S:World→Prop} {w:World} {a:Act} {o:Oper} {i:Nat} {r:Plan} (x y:Operand) (ho:ops.toList[i]?=some o) (hw:Region.wanted o (yielded ops a.tmps)=true)
 (hop:o.op=.call { callee:=.builtin .copy,args:=#[x,y],argTypes:=#[31,31] }) (b p dLen dCap:Nat) (vy:Value) (l m:Lb8) (hx:a.eval x=.slice (some ⟨b,p,none⟩) dLen dCap) (hy:a.eval y=vy) (hl:Sl w vy l) (hne:l≠[])
 (hk:l.length≤dLen) (hC:At w b (u8s m).toArray 5) (hfit:p+l.length≤m.length)
 (h:∀ w',At w' b (u8s (laidB m p l)).toArray 5→w'.heap.size=w.heap.size→(∀ k,k≠b→w'.heap[k]?=w.heap[k]?)→(∀ B a,Below B a w→B≤b→Below B a w')→S w'∧wpPlan Tryz.prog ops Q S r (a.put o.dst (.int .i64 (l.length:Int))) w'):wpPlan Tryz.prog ops Q S (.sole i r) a w:=by
 obtain ⟨a0,cap,rfl,_,hr⟩:=hl
 obtain ⟨bb,oo,rfl,_,hc⟩:=hr hne
 have hlen:(u8s l).length=Nat.min l.length dLen:=by rw [u8s_length];exact (Nat.min_eq_left hk).symm
 have hrun:=run_copy_row (P:=Tryz.prog) w 31 31 o.type 5 b p dLen dCap ⟨bb,oo,none⟩ l.length cap (u8s m).toArray 5 (u8s l) Tryz.underlying31 infoB hC hlen (fun j v hj=>by
  have hjk:j < l.length:=by
   have:=(List.getElem?_eq_some_iff.1 hj).1
   rwa [u8s_length] at this
  rw [Addr.add_mid,hc j hjk,←hj,u8s_get _ _ hjk]) (by rw [u8s_length];simpa [u8s] using hfit) (u8s_cells l)
 refine wpOp_at ho hw ?_
 unfold Oper.wp execOp
 simp only [hop,resolve,invoke,builtin,Sem.run_bind,Sem.run_pure,Result.andThen_ok,List.map_toArray,List.map_cons,List.map_nil,hx,hy,hrun]
 have e:((u8s m).take p++u8s l++(u8s m).drop (p+(u8s l).length)).toArray=(u8s (laidB m p l)).toArray:=by
  rw [←splice_laid,Mem.splice]
 rw [e]
 have hE:goInt (u8s l).length=.int .i64 (l.length:Int):=by rw [u8s_length];rfl
 rw [hE]
 exact h _ (hC.row _) (by simp) (fun k hk=>setRow_other w b k _ hk) (fun B a hb hB=>below_row hb hB _)
def SlB (F:Foot) (w:World) (v:Value) (l:Lb8):Prop:=SlR F w 1 v l.length (u8s l)
theorem SlB.sl {F:Foot} {w:World} {v:Value} {l:Lb8} (h:SlB F w v l):Sl w v l:=by
 obtain ⟨_,a,cap,rfl,hc,hr⟩:=h
 refine ⟨a,cap,rfl,hc,fun hne=>?_⟩
 obtain ⟨bb,oo,ea,_,hlt,hcell⟩:=hr (fun h0=>hne (List.eq_nil_of_length_eq_zero h0))
 exact ⟨bb,oo,ea,hlt,fun i hi=>hcell i _ (u8s_get l i hi)⟩
theorem SlB.keep {F:Foot} {w w':World} {v:Value} {l:Lb8} (h:SlB F w v l) (hs:w.heap.size≤w'.heap.size) (hk:∀ k,F k→k < w.heap.size→w'.heap[k]?=w.heap[k]?):SlB F w' v l:=SlR.keep h hs hk
theorem SlB.mono {F G:Foot} {w:World} {v:Value} {l:Lb8} (h:SlB F w v l) (hs:∀ k,F k→k < w.heap.size→G k):SlB G w v l:=SlR.mono h hs
theorem OwnB.slB {w:World} {B:Nat} {v:Value} {l:Lb8} (h:OwnB w B v l):SlB (fun k=>B≤k) w v l:=ownsRow_slR h
theorem slB_nil (F:Foot) (w:World):SlB F w (.slice none 0 0) []:=SlR.nil F w 1
structure St6 where
 n:Nat
 b:Lb8
 w:List (Nat × Lb8)
 sh:List (Lb8)
 t:List Int
def putC:List (Nat × Value)→List Value
 | []=>[]
 | p::l=>.int .i64 (p.1:Int)::p.2::putC l
theorem putC_snoc (p:Nat × Value):∀ l,putC (l++[p])=putC l++[.int .i64 (p.1:Int),p.2]
 | []=>rfl
 | _::l=>by simp [putC,putC_snoc p l]
theorem putC_at:∀ (l:List (Nat × Value)) (i:Nat) (p:Nat × Value),l[i]?=some p→(putC l)[2*i]?=some (.int .i64 (p.1:Int))∧(putC l)[2*i+1]?=some p.2
 | q::l,0,p,h=>by
  have hq:q=p:=by simpa using h
  subst hq
  exact ⟨rfl,rfl⟩
 | q::l,i+1,p,h=>by
  have h':l[i]?=some p:=by simpa using h
  have:=putC_at l i p h'
  simpa [putC,Nat.mul_add] using this
def WPut (G:Foot) (w:World) (v:Value) (l:List (Nat × Lb8)):Prop:=∃ ws:List (Nat × Value),Each2 (fun p q=>p.1=q.1∧SlB G w p.2 q.2) ws l∧SlR G w 2 v l.length (putC ws)
def WSh (G:Foot) (w:World) (v:Value) (l:List (Lb8)):Prop:=∃ hs:List Value,Each2 (fun p q=>SlB G w p q) hs l∧SlR G w 1 v l.length hs
def i64s (l:List Int):List Value:=l.map fun k=>.int .i64 k
def WTr (G:Foot) (w:World) (v:Value) (l:List Int):Prop:=SlR G w 1 v l.length (i64s l)
theorem WPut.keep {G:Foot} {w w':World} {v:Value} {l:List (Nat × Lb8)} (h:WPut G w v l) (hs:w.heap.size≤w'.heap.size) (hk:∀ k,G k→k < w.heap.size→w'.heap[k]?=w.heap[k]?):WPut G w' v l:=by
 obtain ⟨ws,h1,h2⟩:=h
 exact ⟨ws,h1.mono fun _ _ h=>⟨h.1,h.2.keep hs hk⟩,h2.keep hs hk⟩
theorem WPut.mono {G H:Foot} {w:World} {v:Value} {l:List (Nat × Lb8)} (h:WPut G w v l) (hs:∀ k,G k→k < w.heap.size→H k):WPut H w v l:=by
 obtain ⟨ws,h1,h2⟩:=h
 exact ⟨ws,h1.mono fun _ _ h=>⟨h.1,h.2.mono hs⟩,h2.mono hs⟩
theorem WSh.keep {G:Foot} {w w':World} {v:Value} {l:List (Lb8)} (h:WSh G w v l) (hs:w.heap.size≤w'.heap.size) (hk:∀ k,G k→k < w.heap.size→w'.heap[k]?=w.heap[k]?):WSh G w' v l:=by
 obtain ⟨ws,h1,h2⟩:=h
 exact ⟨ws,h1.mono fun _ _ h=>h.keep hs hk,h2.keep hs hk⟩
theorem WSh.mono {G H:Foot} {w:World} {v:Value} {l:List (Lb8)} (h:WSh G w v l) (hs:∀ k,G k→k < w.heap.size→H k):WSh H w v l:=by
 obtain ⟨ws,h1,h2⟩:=h
 exact ⟨ws,h1.mono fun _ _ h=>h.mono hs,h2.mono hs⟩
theorem WPut.hd {G:Foot} {w:World} {v:Value} {l:List (Nat × Lb8)} (h:WPut G w v l):∃ a cap,v=.slice a l.length cap:=by
 obtain ⟨_,_,_,a,cap,e,_⟩:=h;exact ⟨a,cap,e⟩
theorem WSh.hd {G:Foot} {w:World} {v:Value} {l:List (Lb8)} (h:WSh G w v l):∃ a cap,v=.slice a l.length cap:=by
 obtain ⟨_,_,_,a,cap,e,_⟩:=h;exact ⟨a,cap,e⟩
theorem WTr.hd {G:Foot} {w:World} {v:Value} {l:List Int} (h:WTr G w v l):∃ a cap,v=.slice a l.length cap:=by
 obtain ⟨_,a,cap,e,_⟩:=h;exact ⟨a,cap,e⟩
theorem SlB.hd {G:Foot} {w:World} {v:Value} {l:Lb8} (h:SlB G w v l):∃ a cap,v=.slice a l.length cap:=by
 obtain ⟨_,a,cap,e,_⟩:=h;exact ⟨a,cap,e⟩
structure Four (G:Foot) (w:World) (vb vw vs vt:Value) (s:St6):Prop where
 fb:SlB G w vb s.b
 fw:WPut G w vw s.w
 fs:WSh G w vs s.sh
 ft:WTr G w vt s.t
theorem Four.keep {G:Foot} {w w':World} {vb vw vs vt:Value} {s:St6} (h:Four G w vb vw vs vt s) (hs:w.heap.size≤w'.heap.size) (hk:∀ k,G k→k < w.heap.size→w'.heap[k]?=w.heap[k]?):Four G w' vb vw vs vt s:=
 ⟨h.fb.keep hs hk,h.fw.keep hs hk,h.fs.keep hs hk,SlR.keep h.ft hs hk⟩
theorem Four.mono {G H:Foot} {w:World} {vb vw vs vt:Value} {s:St6} (h:Four G w vb vw vs vt s) (hs:∀ k,G k→k < w.heap.size→H k):Four H w vb vw vs vt s:=
 ⟨h.fb.mono hs,h.fw.mono hs,h.fs.mono hs,SlR.mono h.ft hs⟩
structure StEnd (R:Foot→Nat→World→St6→Prop) (F:Foot) (br:Nat) (w:World) (s:St6) (w':World):Prop where
 h:∃ F',R F' br w' s∧∀ k,F' k→F k∨w.heap.size≤k
 c:Chg F w w'
theorem StEnd.trans {R:Foot→Nat→World→St6→Prop} {F F1:Foot} {br:Nat} {w w1 w2:World} {s2:St6} (hc:Chg F w w1) (hx:∀ k,F1 k→F k∨w.heap.size≤k) (k:StEnd R F1 br w1 s2 w2):StEnd R F br w s2 w2:=by
 obtain ⟨F',h1,h2⟩:=k.h
 exact ⟨⟨F',h1,fun k hk=>(h2 k hk).elim (hx k) (fun h=>.inr (Nat.le_trans hc.size h))⟩,hc.trans k.c hx⟩
theorem pclone_any (l:Lb8) (v:Value) (w:World) (bl:l.length≤1000000) (hv:Sl w v l):Calls Tryz.prog 64 #[v] w (PadEnd w l):=by
 have q22:∀ (w:World) (a:Option Addr) (n c n' c':Nat),(binOp .eql 31 (.slice a n c) (.slice none n' c')).run Tryz.prog w=.ok (.bool a.isNone) w:=fun w a n c n' c'=>Lib.run_eql_slice_nil w _ _ a n c n' c' Tryz.underlying31
 have hv0:=hv
 obtain ⟨a0,cap,rfl,_,hr⟩:=hv
 obtain ⟨m,hm⟩:∃ m,m=l.length:=⟨_,rfl⟩
 cases a0 with
 | none=>
  have hl:l=[]:=by
   rcases l with _ | ⟨x,l⟩
   ·rfl
   ·obtain ⟨_,_,h,_⟩:=hr (by simp)
    cases h
  subst hl
  clear hr hv0 hm
  go_enter Tryz.func64,Tryz.ntmps64
  go_wp2
  go_ret
  exact ⟨_,rfl,OwnB.nil _ _,Below.refl _ _⟩
 | some ad=>
  have hsl:Sl (w.alloc (.cells #[] 5)) (.slice (some ad) l.length cap) l:=hv0.below ((Below.refl _ _).alloc (Nat.le_refl _) _)
  have hb0:Below w.heap.size w (w.alloc (.cells #[] 5)):=(Below.refl _ _).alloc (Nat.le_refl _) _
  have how:OwnB (w.alloc (.cells #[] 5)) w.heap.size (.slice (some ⟨w.heap.size,0,none⟩) 0 0) []:=own_none w w.heap.size (Nat.le_refl _)
  rw [←hm] at bl hsl ⊢
  have HV:=zh hsl;have HM:=zh hm;have HB:=zh hb0;have HO:=zh how
  clear hv0 hm hr hsl hb0 how
  go_enter Tryz.func64,Tryz.ntmps64
  go_wp2_with (at_builtin;refine wpList_append_bytes zr _ _ zr w.heap.size (.slice (some ⟨w.heap.size,0,none⟩) 0 0) (.slice (some ad) m cap) [] l zr HO.out zr HV.out (by rw [List.length_nil,←HM.out];omega) (by simp) ?_;intro v5 w5 ho5 _ hb5;have O5:=zh ho5;have B5:=zh (HB.out.trans hb5);clear ho5 hb5)
  go_ret
  exact ⟨_,rfl,by simpa using O5.out,B5.out⟩
theorem ownsRow_set {w:World} {B n i:Nat} {t:TypeId} {v:Value} {hs:List Value} (h:w.ownsRow B t 1 v n hs) (hi:i < n) :
 ∃ g cap cur,v=.slice (some ⟨g,0,none⟩) n cap∧B≤g∧At w g cur t∧i < cur.size∧w.cell? ⟨g,i,none⟩=hs[i]?∧∀ w' x,At w' g (cur.setIfInBounds i x) t→w'.ownsRow B t 1 v n (hs.set i x):=by
 obtain ⟨hl,h | ⟨g,cap,cur,rfl,hg,hh,hnc,hc,hs',ht⟩⟩:=h
 ·omega
 have hA:At w g cur t:=hh
 refine ⟨g,cap,cur,rfl,hg,hA,by omega,?_,fun w' x hA'=>⟨by rw [List.length_set,hl],.inr ⟨g,cap,_,rfl,hg,hA',hnc,hc,by simpa using hs',?_⟩⟩⟩
 ·rw [hA.cell,←ht,List.getElem?_take,if_pos (by omega),Array.getElem?_toList]
 ·rw [←ht,Array.toList_setIfInBounds,List.take_set]
theorem each2_put {α β:Type} {R:α→β→Prop} {x:α} {y:β} (hr:R x y):∀ {l:List α} {m:List β},Each2 R l m→∀ i,Each2 R (l.set i x) (m.set i y)
 | [],[],_,_=>trivial
 | _::_,_::_,h,0=>⟨hr,h.2⟩
 | _::_,_::_,h,i+1=>⟨h.1,each2_put hr h.2 i⟩
end Sha
end Go.Proofs.YtlhnegbjoncieaaGreatDoor
