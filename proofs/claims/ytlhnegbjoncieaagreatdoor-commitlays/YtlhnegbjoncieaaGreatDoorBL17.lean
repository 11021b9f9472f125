/- My own texts, merged. -/
import Derived.Test.YtlhnegbjoncieaaGreatDoorBL13
import Derived.Test.YtlhnegbjoncieaaGreatDoorBL08
import Derived.Test.YtlhnegbjoncieaaGreatDoorBL04
import Derived.Deep.DeepCutAuto
import Derived.Test.YtlhnegbjoncieaaGreatDoorBL09
import Derived.OwnWalk
import Derived.StillTailTactics
set_option maxRecDepth 100000
set_option maxHeartbeats 1000000
namespace Go.Proofs.YtlhnegbjoncieaaGreatDoor
namespace Sha
open Go.RowKit Mem
def blksP (p:Nat):Int:=if p=0 then 0 else 2+2*(itn p:Int)
def lvlP (p:Nat) (z:Int):Int:=if 0≤z∧z < (itn p:Int) then (lev p z.toNat:Int) else -1
def VEnd (v:Value) (w:World) (e:Ending) (w':World):Prop:=e=.returned v∧Below w.heap.size w w'
theorem SlI.hd0 {w:World} {v:Value} (h:SlI w v []):∃ a c,v=.slice a 0 c:=let ⟨a,c,e⟩:=h.hd;⟨a,c,e⟩
theorem SlI.hdn {w:World} {v:Value} {l:List Int} {n:Nat} (h:SlI w v l) (hn:l.length=n):∃ a c,v=.slice a n c:=let ⟨a,c,e⟩:=h.hd;⟨a,c,by rw [e,hn]⟩
theorem OIEnd.I {w w':World} {L:List Int} {e:Ending} (h:OIEnd w L e w'):IEnd w L e w':=let ⟨v,e,ho,hb⟩:=h;⟨v,e,ownV_sli ho,hb⟩
end Sha
end Go.Proofs.YtlhnegbjoncieaaGreatDoor
namespace Go.Proofs.YtlhnegbjoncieaaGreatDoor
namespace Mem
open Go.RowKit
theorem wpList_slice_max {P:Program} {ops:Array Oper} {rest:List Oper} {op:Oper} {a:Act} {w:World} {Q:Exit→Act→World→Prop} (hgd:op.guard=none) (ty:TypeId) (x i j:Operand) (ho:op.op=.slice ty x none (some i) (some j))
 (elem:TypeId) (hu:P.underlying ty=some (.slice elem)) (z:Nat) (hs:(P.info? elem).map (·.size)=some z) (b o len cap k:Nat) (hx:a.eval x=.slice (some ⟨b,o,none⟩) len cap) (hi:a.eval i=.int .i64 (k:Int)) (hj:a.eval j=.int .i64 (k:Int)) (hk:k≤cap)
 (h:wpList P ops Q rest (a.put op.dst (.slice (some ⟨b,o,none⟩) k k)) w):wpList P ops Q (op::rest) a w:=by
 refine wpList_plain hgd fun K hK=>?_
 cases hq:P.info? elem with
 | none=>simp [hq] at hs
 | some q=>
  have hkl:(k:Int)≤(cap:Int):=by omega
  have hrun:(Instr.slice ty (.slice (some ⟨b,o,none⟩) len cap) none (some (.int .i64 (k:Int))) (some (.int .i64 (k:Int)))).run P w=.ok (.slice (some ⟨b,o,none⟩) k k) w:=by
   simp [Instr.slice,Instr.sliceBounds,Instr.sliceBound,asIntOf,Sem.run_bind,run_underlying hu,sizeOf,typeInfo,hq,hk,Addr.add_mid]
  have hat:(Instr.sliceAt ty (.slice (some ⟨b,o,none⟩) len cap) none (some (.int .i64 (k:Int))) (some (.int .i64 (k:Int)))).run P w=.ok (.slice (some ⟨b,o,none⟩) k k) w:=by
   simp [Instr.sliceAt,Sem.run_bind,run_underlying hu,hrun]
  unfold Oper.wp execOp
  simp only [ho,hx,hi,hj,Option.map_some,Option.map_none,Sem.run_bind,hat,Result.andThen_ok,Sem.run_pure]
  exact hK _ _ h
end Mem
namespace Sha
open Go.RowKit Mem
set_option maxRecDepth 100000
def QEnd (v:Value) (w:World) (e:Ending) (w':World):Prop:=e=.returned v∧w'=w
theorem within_any (z f m:Int) (w:World) (h0:0≤f) (h1:0≤m) (h2:f+m < 4000000000):Calls Tryz.prog 47 #[.int .i64 z,.int .i64 f,.int .i64 m] w (QEnd (.bool (decide (f≤z∧z < f+m))) w):=by
 by_cases a:f≤z
 ·by_cases b:z < f+m
  ·rw [show decide (f≤z∧z < f+m)=true from decide_eq_true ⟨a,b⟩]
   go_enter Tryz.func47,Tryz.ntmps47
   go_wp2_with fail
   go_ret
   exact ⟨rfl,rfl⟩
  ·rw [show decide (f≤z∧z < f+m)=false from decide_eq_false (fun h=>b h.2)]
   go_enter Tryz.func47,Tryz.ntmps47
   go_wp2_with fail
   go_ret
   exact ⟨rfl,rfl⟩
 ·rw [show decide (f≤z∧z < f+m)=false from decide_eq_false (fun h=>a h.1)]
  go_enter Tryz.func47,Tryz.ntmps47
  go_wp2_with fail
  go_ret
  exact ⟨rfl,rfl⟩
theorem nodes_any (m:Nat) (w:World) (h:m≤216):Calls Tryz.prog 106 #[.int .i64 (m:Int)] w (QEnd (.int .i64 (cnt m:Nat)) w):=by
 have h6:((m:Int)+6 - 1) / 6=((cnt m:Nat):Int):=by unfold cnt;omega
 have H6:=zh h6
 clear h6
 go_enter Tryz.func106,Tryz.ntmps106
 go_wp2_with fail
 go_ret
 exact ⟨by rw [←H6.out];go_num,rfl⟩
def psC (p:Nat):Array Value:=#[.int .i64 (p:Int)]
theorem psC_one (p:Nat):(psC p).all (·.oneCell')=true:=by simp [psC,Value.oneCell']
theorem infoPS:(Tryz.prog.info? 26).map (·.size)=some 1:=by kernel_rfl
theorem zeroPS (w:World):(zeroValue 26).run Tryz.prog w=.ok (.agg (psC 0)) w:=by kernel_rfl
theorem buildPS0 (w:World):(Instr.build 26 #[]).run Tryz.prog w=.ok (.agg (psC 0)) w:=by kernel_rfl
theorem buildPS (p:Nat) (w:World):(Instr.build 26 #[(0,.int .i64 (p:Int))]).run Tryz.prog w=.ok (.agg (psC p)) w:=by kernel_rfl
theorem pnew_bad (z:Int) (w:World) (h:z < 1∨216 < z):Calls Tryz.prog 41 #[.int .i64 z] w fun e w'=>e=.returned (.tuple #[.agg (psC 0),.int .i64 1])∧Below w.heap.size w w':=by
 obtain ⟨Z,hZ⟩:∃ Z,Z=psC 0:=⟨_,rfl⟩
 have zs:Z.size=1:=by rw [hZ];rfl
 have zo:Z.all (·.oneCell')=true:=by rw [hZ];exact psC_one 0
 have hx:∀ w,(zeroValue 26).run Tryz.prog w=.ok (.agg Z) w:=by rw [hZ];exact zeroPS
 have bn:∀ w,(Instr.build 26 #[]).run Tryz.prog w=.ok (.agg Z) w:=by rw [hZ];exact buildPS0
 rw [←hZ]
 have az:=at_new w Z 26
 have bz:Below w.heap.size w (w.alloc (.cells Z 26)):=(Below.refl _ _).alloc (Nat.le_refl _) _
 have ZS:=zh zs;have ZO:=zh zo;have BN:=zh bn;have AZ:=zh az;have BZ:=zh bz
 clear zs zo bn az bz hZ
 by_cases h0:z < 1
 ·go_enter Tryz.func41,Tryz.ntmps41
  go_upto_region 1 with fail
  clear hx
  generalize w.alloc (.cells Z 26)=w1 at *
  go_wp2_with (first
   | (refine Mem.wpList_build zr 26 _ #[] (.agg Z) zr (by simp) BN.out ?_)
   | (refine wpList_store_all zr 26 _ _ zr zr w.heap.size Z zr zr (by rw [ZS.out];exact infoPS) Z 26 AZ.out zr ZO.out ?_))
  try simp only [Exit.inBlock,Exit.then]
  refine ret_row_tmp zr w.heap.size 26 Z _ _ zr zr (AZ.out.row Z) Tryz.underlying26 zr (by rw [ZS.out];exact infoPS) ?_
  exact ⟨rfl,below_row BZ.out (Nat.le_refl _) Z⟩
 ·have h1:216 < z:=by omega
  clear h
  go_enter Tryz.func41,Tryz.ntmps41
  go_upto_region 1 with fail
  clear hx
  generalize w.alloc (.cells Z 26)=w1 at *
  go_wp2_with (first
   | (refine Mem.wpList_build zr 26 _ #[] (.agg Z) zr (by simp) BN.out ?_)
   | (refine wpList_store_all zr 26 _ _ zr zr w.heap.size Z zr zr (by rw [ZS.out];exact infoPS) Z 26 AZ.out zr ZO.out ?_))
  try simp only [Exit.inBlock,Exit.then]
  refine ret_row_tmp zr w.heap.size 26 Z _ _ zr zr (AZ.out.row Z) Tryz.underlying26 zr (by rw [ZS.out];exact infoPS) ?_
  exact ⟨rfl,below_row BZ.out (Nat.le_refl _) Z⟩
theorem pnew_good (p:Nat) (w:World) (h0:1≤p) (h1:p≤216):Calls Tryz.prog 41 #[.int .i64 (p:Int)] w fun e w'=>e=.returned (.tuple #[.agg (psC p),.int .i64 0])∧Below w.heap.size w w':=by
 obtain ⟨Z,hZ⟩:∃ Z,Z=psC 0:=⟨_,rfl⟩
 obtain ⟨D,hD⟩:∃ D,D=psC p:=⟨_,rfl⟩
 have zs:Z.size=1:=by rw [hZ];rfl
 have ds:D.size=1:=by rw [hD];rfl
 have dO:D.all (·.oneCell')=true:=by rw [hD];exact psC_one p
 have hx:∀ w,(zeroValue 26).run Tryz.prog w=.ok (.agg Z) w:=by rw [hZ];exact zeroPS
 have bn:∀ w,(Instr.build 26 #[(0,.int .i64 (p:Int))]).run Tryz.prog w=.ok (.agg D) w:=by rw [hD];exact buildPS p
 rw [←hD]
 have az:=at_new w Z 26
 have bz:Below w.heap.size w (w.alloc (.cells Z 26)):=(Below.refl _ _).alloc (Nat.le_refl _) _
 have ZS:=zh zs;have DS:=zh ds;have DO:=zh dO;have BN:=zh bn;have AZ:=zh az;have BZ:=zh bz
 have g0:¬ (p:Int) < 1:=by omega
 have g1:¬ (216:Int) < (p:Int):=by omega
 clear zs ds dO bn az bz hZ hD
 go_enter Tryz.func41,Tryz.ntmps41
 go_upto_region 1 with fail
 clear hx
 generalize w.alloc (.cells Z 26)=w1 at *
 go_wp2_with (first
  | (refine Mem.wpList_build zr 26 _ #[(0,.int .i64 (p:Int))] (.agg D) zr (by simp [Act.eval]) BN.out ?_)
  | (refine wpList_store_all zr 26 _ _ zr zr w.heap.size D zr zr (by rw [DS.out];exact infoPS) Z 26 AZ.out (by rw [DS.out,ZS.out]) DO.out ?_))
 try simp only [Exit.inBlock,Exit.then]
 refine ret_row_tmp zr w.heap.size 26 D _ _ zr zr (AZ.out.row D) Tryz.underlying26 zr (by rw [DS.out];exact infoPS) ?_
 exact ⟨rfl,below_row BZ.out (Nat.le_refl _) D⟩
theorem ppages_any (p:Nat) (w:World):Calls Tryz.prog 54 #[.agg (psC p)] w (VEnd (.int .i64 (p:Int)) w):=by
 have c0:(w.alloc (.cells (psC p) 26)).cell? ⟨w.heap.size,0,none⟩=some (.int .i64 (p:Int)):=((at_new w (psC p) _).cell 0).trans rfl
 have hb:Below w.heap.size w (w.alloc (.cells (psC p) 26)):=(Below.refl _ _).alloc (Nat.le_refl _) _
 have ms:(psC p).size=1:=rfl
 obtain ⟨M,hM⟩:∃ M,M=psC p:=⟨_,rfl⟩
 rw [←hM] at c0 hb ms ⊢
 have HB:=zh hb;have MS:=zh ms
 clear hb ms hM
 go_enter Tryz.func54,Tryz.ntmps54
 go_wp2_with fail
 go_ret
 exact ⟨rfl,HB.out⟩
end Sha
end Go.Proofs.YtlhnegbjoncieaaGreatDoor
namespace Go.Proofs.YtlhnegbjoncieaaGreatDoor
namespace Sha
open Go.RowKit Mem
set_option maxRecDepth 100000
def lvC (p k:Nat):Array Value:=#[.int .i64 (stn p k:Nat),.int .i64 (lvn p k:Nat)]
def lvL (p n:Nat):List Value:=(List.range n).flatMap fun k=>(lvC p k).toList
theorem lvL_succ (p n:Nat):lvL p (n+1)=lvL p n++(lvC p n).toList:=by
 unfold lvL
 rw [List.range_succ,List.flatMap_append]
 simp
theorem lvL_len (p n:Nat):(lvL p n).length=n*2:=by
 induction n with
 | zero=>rfl
 | succ n ih=>rw [lvL_succ,List.length_append,ih];show n*2+2=(n+1)*2;omega
theorem lvL_get (p k:Nat):∀ n,k < n→(lvL p n)[k*2]?=some (.int .i64 (stn p k:Nat))∧(lvL p n)[k*2+1]?=some (.int .i64 (lvn p k:Nat)):=by
 intro n
 induction n with
 | zero=>intro h;omega
 | succ n ih=>
  intro h
  have hl:=lvL_len p n
  rw [lvL_succ]
  by_cases e:k < n
  ·rw [List.getElem?_append_left (by omega),List.getElem?_append_left (by omega)]
   exact ih e
  ·have:k=n:=by omega
   subst this
   rw [List.getElem?_append_right (by omega),List.getElem?_append_right (by omega),hl,Nat.sub_self,Nat.add_sub_cancel_left]
   exact ⟨rfl,rfl⟩
structure LvR (w:World) (g p:Nat) (C:Array Value):Prop where
 row:At w g C 164
 size:C.size=8
 c0:∀ k,k≤topn p→C[k*2]?=some (.int .i64 (stn p k:Nat))
 c1:∀ k,k≤topn p→C[k*2+1]?=some (.int .i64 (lvn p k:Nat))
theorem LvR.cell0 {w:World} {g p k:Nat} {C:Array Value} (h:LvR w g p C) (hk:k≤topn p):w.cell? ⟨g,k*2,none⟩=some (.int .i64 (stn p k:Nat)):=(h.row.cell _).trans (h.c0 k hk)
theorem LvR.cell1 {w:World} {g p k:Nat} {C:Array Value} (h:LvR w g p C) (hk:k≤topn p):w.cell? ⟨g,k*2+1,none⟩=some (.int .i64 (lvn p k:Nat)):=(h.row.cell _).trans (h.c1 k hk)
theorem LvR.below {w w':World} {g p:Nat} {C:Array Value} (h:LvR w g p C) (hb:Below w.heap.size w w'):LvR w' g p C:=⟨h.row.below hb h.row.lt,h.size,h.c0,h.c1⟩
theorem LvR.ext {w:World} {g p k:Nat} {C:Array Value} (h:LvR w g p C) (hk:k≤topn p):C.extract (k*2) (k*2+2)=#[.int .i64 (stn p k:Nat),.int .i64 (lvn p k:Nat)]:=by
 have ht:=(top_le p).2
 have hs:=h.size
 have e0:=h.c0 k hk
 have e1:=h.c1 k hk
 rw [Array.getElem?_eq_getElem (by omega)] at e0 e1
 injection e0 with e0
 injection e1 with e1
 apply Array.ext
 ·simp;omega
 ·intro i h1 h2
  simp only [List.size_toArray,List.length_cons,List.length_nil] at h2
  rw [Array.getElem_extract]
  match i,h2 with
  | 0,_=>simpa using e0
  | 1,_=>simpa using e1
theorem lvR_of {w:World} {B g p n:Nat} (h:w.ownsRow B 164 2 (.slice (some ⟨g,0,none⟩) n 4) n (lvL p n)) (hn:n=topn p+1):∃ C,LvR w g p C:=by
 rcases h.2 with ⟨e,_⟩ | ⟨g',cap,cur,e,_,hg,_,_,hs,ht⟩
 ·cases e
 ·injection e with e1 _ e3
  injection e1 with e1
  injection e1 with e1
  subst e1 e3
  refine ⟨cur,hg,hs,fun k hk=>?_,fun k hk=>?_⟩
  ·have a:=(lvL_get p k n (by omega)).1
   rw [←ht,List.getElem?_take,if_pos (by omega)] at a
   rw [←Array.getElem?_toList];exact a
  ·have a:=(lvL_get p k n (by omega)).2
   rw [←ht,List.getElem?_take,if_pos (by omega)] at a
   rw [←Array.getElem?_toList];exact a
structure LS (u w:World) (g l p k n:Nat):Prop where
 own:w.ownsRow u.heap.size 164 2 (.slice (some ⟨g,0,none⟩) n 4) n (lvL p n)
 last:At w l (lvC p k) 164
 b:Below u.heap.size u w
 hl:u.heap.size≤l
 ne:g≠l
theorem LS.start {u w1 w3:World} (p:Nat) (hb:Below u.heap.size u w1) (hg:w1.grownBy w3 none) (ho:w3.ownsRow u.heap.size 164 2 (.slice (some ⟨w1.heap.size,0,none⟩) 0 4) 0 []):LS u (w3.alloc (.cells (lvC p 0) 164)) w1.heap.size w3.heap.size p 0 0:=by
 have hb3:=hb.grown hg hb.size (fun k e=>by cases e)
 have hlt:=(World.ownsRow.lt ho w1.heap.size rfl).2
 exact ⟨World.ownsRow.alloc ho _,at_new w3 _ _,hb3.alloc hb3.size _,hb3.size,by omega⟩
theorem LS.lts {u w:World} {g l p k n:Nat} (h:LS u w g l p k n):g < w.heap.size∧l < w.heap.size∧u.heap.size≤g:=⟨(World.ownsRow.lt h.own g rfl).2,h.last.lt,(World.ownsRow.lt h.own g rfl).1⟩
theorem LS.app {u w w':World} {g l p k n:Nat} {c:Array Value} {t:TypeId} (h:LS u w g l p k n) (hc:(lvC p n).toList=c.toList) (hg:(w.alloc (.cells c t)).grownBy w' (some g)) (ho:w'.ownsRow u.heap.size 164 2 (.slice (some ⟨g,0,none⟩) (n+1) 4) (n+1) (lvL p n++c.toList)):LS u w' g l p k (n+1):=by
 have hs:(w.alloc (.cells c t)).heap.size=w.heap.size+1:=by simp
 have hl:=h.lts
 refine ⟨by rw [lvL_succ,hc];exact ho,?_,?_,h.hl,h.ne⟩
 ·have ha:=h.last.alloc (.cells c t)
  unfold At at ha ⊢
  rw [hg.block l (by omega) (fun e=>h.ne (by injection e with e;exact e.symm))]
  exact ha
 ·exact (h.b.alloc h.b.size _).grown hg (by have:=h.b.size;omega) (fun k e=>by injection e with e;omega)
theorem LS.set {u w:World} {g l p k n:Nat} {D:Array Value} (h:LS u w g l p k n) (hD:D=lvC p (k+1)):LS u (w.setRow l D) g l p (k+1) n:=by
 subst hD
 refine ⟨ownsRow_keep h.own (fun b e=>?_),h.last.row _,below_row h.b h.hl _,h.hl,h.ne⟩
 have:b=g:=by simpa [Value.ownBlock] using e.symm
 subst this
 exact setRow_other w l b _ h.ne
theorem LS.drew {u w:World} {g l p k n:Nat} (h:LS u w g l p k n):LS u w.drew g l p k n:=⟨h.own.drew,h.last,h.b.drew,h.hl,h.ne⟩
theorem LS.c0 {u w:World} {g l p k n:Nat} (h:LS u w g l p k n):w.cell? ⟨l,0,none⟩=some (.int .i64 (stn p k:Nat)):=(h.last.cell 0).trans rfl
theorem LS.c1 {u w:World} {g l p k n:Nat} (h:LS u w g l p k n):w.cell? ⟨l,1,none⟩=some (.int .i64 (lvn p k:Nat)):=(h.last.cell 1).trans rfl
theorem infoLv:(Tryz.prog.info? 164).map (·.size)=some 2:=by kernel_rfl
theorem elemLv:(Tryz.prog.info? 164).map (fun i=>(i.zero,i.size,i.bytes))=some (some (.agg #[.int .i64 0,.int .i64 0]),2,16):=by kernel_rfl
theorem buildLv (p:Nat) (w:World):(Instr.build 164 #[(1,.int .i64 (p:Int))]).run Tryz.prog w=.ok (.agg #[.int .i64 0,.int .i64 (p:Int)]) w:=by kernel_rfl
theorem two_one (a b:Int):(#[.int .i64 a,.int .i64 b]:Array Value).all (·.oneCell')=true:=by simp [Value.oneCell']
theorem two_one' (a b:Int):∀ u∈[Value.int .i64 a,Value.int .i64 b],u.oneCell'=true:=by
 intro u hu
 simp only [List.mem_cons,List.not_mem_nil,or_false] at hu
 rcases hu with rfl | rfl <;> rfl
theorem lit_cells (w:World) (c:Array Value) (t:TypeId):∀ j u,c.toList[j]?=some u→(w.alloc (.cells c t)).cell? ((⟨w.heap.size,0,none⟩:Addr).add j)=some u:=by
 intro j u h
 rw [Addr.add_mid,Nat.zero_add,(at_new w c t).cell,←Array.getElem?_toList]
 exact h
def LvEnd (p:Nat) (w:World) (e:Ending) (w':World):Prop:=∃ g C,e=.returned (.slice (some ⟨g,0,none⟩) (topn p+1) (topn p+1))∧LvR w' g p C∧Below w.heap.size w w'
def slen:Value→Nat
 | .slice _ n _=>n
 | _=>0
theorem plevels_0 (w:World):Calls Tryz.prog 82 #[.agg (psC 0)] w (VEnd (.slice none 0 0) w):=by
 have c0:(w.alloc (.cells (psC 0) 26)).cell? ⟨w.heap.size,0,none⟩=some (.int .i64 0):=((at_new w (psC 0) _).cell 0).trans rfl
 have hb:Below w.heap.size w (w.alloc (.cells (psC 0) 26)):=(Below.refl _ _).alloc (Nat.le_refl _) _
 have ms:(psC 0).size=1:=rfl
 obtain ⟨M,hM⟩:∃ M,M=psC 0:=⟨_,rfl⟩
 rw [←hM] at c0 hb ms ⊢
 have HB:=zh hb;have MS:=zh ms
 clear hb ms hM
 go_enter Tryz.func82,Tryz.ntmps82
 go_wp2_with fail
 go_ret
 exact ⟨rfl,HB.out⟩
theorem plevels_any (p:Nat) (w:World) (h0:1≤p) (h1:p≤216):Calls Tryz.prog 82 #[.agg (psC p)] w (LvEnd p w):=by
 obtain ⟨i2,hi2,hz2,hs2,hb2⟩:=info_parts elemLv
 have c0:(w.alloc (.cells (psC p) 26)).cell? ⟨w.heap.size,0,none⟩=some (.int .i64 (p:Int)):=((at_new w (psC p) _).cell 0).trans rfl
 have hb:Below w.heap.size w (w.alloc (.cells (psC p) 26)):=(Below.refl _ _).alloc (Nat.le_refl _) _
 have ms:(psC p).size=1:=rfl
 obtain ⟨M,hM⟩:∃ M,M=psC p:=⟨_,rfl⟩
 rw [←hM] at c0 hb ms ⊢
 have ht:=top_le p
 have hst:∀ w3,(w.alloc (.cells M 26)).grownBy w3 none→w3.ownsRow w.heap.size 164 2 (.slice (some ⟨(w.alloc (.cells M 26)).heap.size,0,none⟩) 0 4) 0 []→LS w (w3.alloc (.cells #[.int .i64 0,.int .i64 (p:Int)] 164)) (w.alloc (.cells M 26)).heap.size w3.heap.size p 0 0:=fun w3 a b=>LS.start p hb a b
 obtain ⟨w1,hw1⟩:∃ w1,w1=w.alloc (.cells M 26):=⟨_,rfl⟩
 have hlt:w.heap.size < w1.heap.size:=by rw [hw1];simp
 rw [←hw1] at c0 hb hst
 have hx:∀ w,(zeroValue 164).run Tryz.prog w=.ok (.agg #[.int .i64 0,.int .i64 0]) w:=fun w=>by kernel_rfl
 have HB:=zh hb;have MS:=zh ms;have I2:=zh hi2;have Z2:=zh hz2;have S2:=zh hs2;have B2:=zh hb2;have ST:=zh hst;have BS:=zh hb.size;have LT:=zh hlt;have BN:=zh (buildLv p)
 have p0:¬ (p:Int)=0:=by omega
 clear hb ms hM hi2 hz2 hs2 hb2 hst hlt
 go_enter Tryz.func82,Tryz.ntmps82
 go_upto_region 1 with fail
 rw [←hw1]
 clear hw1
 go_upto_region 3 with fail
 go_upto_region 4 with (refine wpList_make_own _ zr _ _ 161 zr w.heap.size 164 i2 (.agg #[.int .i64 0,.int .i64 0]) 2 Tryz.underlying161 I2.out Z2.out S2.out .i64 .i64 4 4 zr zr zr (by rw [B2.out];decide) (by decide) BS.out ?_;intro w3 ho3 hg3)
 have c3:w3.cell? ⟨w.heap.size,0,none⟩=some (.int .i64 (p:Int)):=(World.cell?_of_block (hg3.block _ LT.out (fun e=>by cases e))).trans c0
 have S0:=zh (ST.out w3 hg3 ho3)
 clear c0 hg3 ho3 ST Z2 B2 BS
 go_upto_region 5 with (first
  | (refine Mem.wpList_build zr 164 _ #[(1,.int .i64 (p:Int))] (.agg #[.int .i64 0,.int .i64 (p:Int)]) zr (by simp [Act.eval]) BN.out ?_)
  | (refine wpList_store_new zr 164 _ _ zr zr #[.int .i64 0,.int .i64 (p:Int)] _ _ zr zr infoLv zr (two_one _ _) ?_))
 obtain ⟨g,hg⟩:∃ g,g=w1.heap.size:=⟨_,rfl⟩
 obtain ⟨l,hl⟩:∃ l,l=w3.heap.size:=⟨_,rfl⟩
 rw [←hg,←hl] at S0
 rw [←hg,←hl]
 clear hx hg hl BN c3
 generalize (w3.alloc (.cells #[.int .i64 0,.int .i64 (p:Int)] 164))=w4 at *
 go_wp2_with (first
  | (refine wpList_load_all zr 164 _ zr l zr _ Tryz.underlying164 zr #[.int .i64 0,.int .i64 (p:Int)] _ S0.out.last infoLv ?_)
  | (at_builtin;go_loud (refine wpList_append_fits _ zr _ _ 161 zr w.heap.size 164 i2 2 Tryz.underlying161 I2.out S2.out g 0 4 (lvL p 0) zr (World.ownsRow.alloc S0.out.own _) ⟨w4.heap.size,0,none⟩ 1 1 [.int .i64 0,.int .i64 (p:Int)] zr zr (lit_cells w4 _ _) (two_one' _ _) (by omega) ?_);intro w6 ho6 hg6;have S1:=zh (S0.out.app (by first | rfl | exact rfl) hg6 ho6);clear ho6 hg6))
 clear S0
 go_loopw [3] (fun v wr=>∃ k n,n=k+1∧k≤topn p∧v=.slice (some ⟨g,0,none⟩) n 4∧LS w wr g l p k n) (fun v _=>5 - slen v)
 case atStart=>exact ⟨0,1,rfl,by omega,rfl,S1.out⟩
 case round=>
  obtain ⟨k,n,hn,hk,rfl,hS⟩:=hrel
  clear S1
  have hti:=top_iff p k h0 h1 (by omega)
  have cm:=hS.c1
  have cf:=hS.c0
  have hb9:=stn_le p k (by omega) h1
  obtain ⟨m,hm⟩:∃ m,m=lvn p k:=⟨_,rfl⟩
  obtain ⟨f,hf⟩:∃ f,f=stn p k:=⟨_,rfl⟩
  rw [←hm] at hti cm hb9
  rw [←hf] at cf hb9
  have SR:=zh hS;have HN:=zh hn;have HM:=zh hm;have HF:=zh hf
  have hn4:n≤4:=by omega
  clear hS
  by_cases hgo:k+1≤topn p
  ·have hcase:k=0∨(¬ k=0∧1 < m):=by have:=hti.mpr hgo;omega
   have hn3:n+1≤4:=by omega
   go_upto_region 6 with fail
   go_cut [23] (fun x wx=>x=.bool true∧wr=wx)
   case first=>
    rcases hcase with hk0 | ⟨hk0,hc1⟩
    ·have e1:(n:Int)=1:=by omega
     clear hn hm hf
     go_wp2_with fail
     go_meet
     exact ⟨rfl,rfl⟩
    ·have e1:¬ (n:Int)=1:=by omega
     have e2:(1:Int) < (m:Int):=by omega
     clear hn hm hf
     go_wp2_with fail
     go_meet
     exact ⟨rfl,rfl⟩
   obtain ⟨rfl,hwx⟩:=hcut
   subst hwx
   have hcn:=lvn_cnt p k (by omega)
   have hst:=stn_lvn p k (by omega)
   rw [←hm] at hcn
   rw [←hm,←hf] at hst
   have hD:(#[.int .i64 ((f:Int)+(m:Int)),.int .i64 ((cnt m:Nat):Int)]:Array Value)=lvC p (k+1):=by
    unfold lvC;rw [hcn,hst,Int.natCast_add]
   have HD:=zh hD;have NO:=zh (fun w=>nodes_any m w hb9.2)
   have S7:=zh SR.out.drew
   have cf7:wr.drew.cell? ⟨l,0,none⟩=some (.int .i64 (f:Int)):=cf
   have cm7:wr.drew.cell? ⟨l,1,none⟩=some (.int .i64 (m:Int)):=cm
   clear hcn hst hD hm hf hn hti hcase cf cm
   go_upto_region 7 with fail
   go_still_tail 9,(by kernel_rfl)
   still_call (NO.out _)
   repeat still_step
   refine wpStill_nil ?_
   have hw:IntKind.i64.wrap ((f:Int)+(m:Int))=(f:Int)+(m:Int):=by rw [IntKind.wrap_i64];omega
   rw [hw]
   clear hw cf7 cm7
   change wpList _ _ _ _ _ wr.drew
   generalize wr.drew=w7 at *
   obtain ⟨D,hDD⟩:∃ D:Array Value,D=#[.int .i64 ((f:Int)+(m:Int)),.int .i64 ((cnt m:Nat):Int)]:=⟨_,rfl⟩
   have hs8:LS w (w7.setRow l #[.int .i64 ((f:Int)+(m:Int)),.int .i64 ((cnt m:Nat):Int)]) g l p (k+1) n:=S7.out.set HD.out
   have S8:=zh hs8
   clear hs8 hDD
   go_upto_region 8 with (refine wpList_store_all zr 164 _ _ zr zr l #[.int .i64 ((f:Int)+(m:Int)),.int .i64 ((cnt m:Nat):Int)] zr zr infoLv _ 164 S7.out.last zr (two_one _ _) ?_)
   generalize (w7.setRow l #[.int .i64 ((f:Int)+(m:Int)),.int .i64 ((cnt m:Nat):Int)])=w8 at *
   clear S7 SR
   have hl8:At w8 l #[.int .i64 ((f:Int)+(m:Int)),.int .i64 ((cnt m:Nat):Int)] 164:=by rw [HD.out];exact S8.out.last
   have L8:=zh hl8
   clear hl8
   go_wp2_with (first
    | (refine wpList_load_all zr 164 _ zr l zr _ Tryz.underlying164 zr #[.int .i64 ((f:Int)+(m:Int)),.int .i64 ((cnt m:Nat):Int)] _ L8.out infoLv ?_)
    | (at_builtin;refine wpList_append_fits _ zr _ _ 161 zr w.heap.size 164 i2 2 Tryz.underlying161 I2.out S2.out g n 4 (lvL p n) zr (World.ownsRow.alloc S8.out.own _) ⟨w8.heap.size,0,none⟩ 1 1 [.int .i64 ((f:Int)+(m:Int)),.int .i64 ((cnt m:Nat):Int)] zr zr (lit_cells w8 _ _) (two_one' _ _) (by omega) ?_;intro w6 ho6 hg6;have S9:=zh (S8.out.app (by rw [HN.out,←HD.out]) hg6 ho6);clear ho6 hg6))
   go_roundw
   case rel=>exact ⟨k+1,n+1,by rw [HN.out],hgo,rfl,S9.out⟩
   case measure=>simp [slen];omega
  ·have hkt:k=topn p:=by omega
   have hcase:¬ k=0∧¬ 1 < m:=⟨by omega,fun h=>hgo (hti.mp (Or.inr h))⟩
   have e1:¬ (n:Int)=1:=by omega
   have e2:¬ (1:Int) < (m:Int):=by omega
   have hn1:n=topn p+1:=by omega
   obtain ⟨CC,hCC⟩:=lvR_of SR.out.own hn1
   have hbb:=SR.out.b
   have RR:=zh hCC;have BB:=zh hbb;have N1:=zh hn1
   clear hCC hbb hn1 hcase hti hkt hn hm hf cf SR
   go_wp2_with (refine wpList_slice_max zr 161 _ _ _ zr 164 Tryz.underlying161 2 infoLv g 0 n 4 n zr zr zr hn4 ?_)
   go_ret
   exact ⟨g,CC,by rw [←N1.out];rfl,RR.out,BB.out⟩
end Sha
end Go.Proofs.YtlhnegbjoncieaaGreatDoor
