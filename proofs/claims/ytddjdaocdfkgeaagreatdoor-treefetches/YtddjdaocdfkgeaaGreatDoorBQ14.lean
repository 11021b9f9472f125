/- Layer 12: what the program's functions are asked to do (contracts over its Shape value). The program's shape: isWithin, nodesOver, New, Pages, levels. -/
import Derived.Test.YtddjdaocdfkgeaaGreatDoorBQ04
import Derived.Test.YtddjdaocdfkgeaaGreatDoorBQ01
import Derived.Deep.DeepCutAuto
import Derived.OwnWalk
import Derived.StillTailTactics
namespace Go.Proofs.YtddjdaocdfkgeaaGreatDoor
namespace Sha
open Go.RowKit Mem
def blksP (p:Nat):Int:=if p=0 then 0 else 2+2*(itn p:Int)
def lvlP (p:Nat) (z:Int):Int:=if 0≤z∧z < (itn p:Int) then (lev p z.toNat:Int) else -1
def VEnd (v:Value) (w:World) (e:Ending) (w':World):Prop:=e=.returned v∧Below w.heap.size w w'
theorem SlI.hd0 {w:World} {v:Value} (h:SlI w v []):∃ a c,v=.slice a 0 c:=let ⟨a,c,e⟩:=h.hd;⟨a,c,e⟩
theorem SlI.hdn {w:World} {v:Value} {l:List Int} {n:Nat} (h:SlI w v l) (hn:l.length=n):∃ a c,v=.slice a n c:=let ⟨a,c,e⟩:=h.hd;⟨a,c,by rw [e,hn]⟩
theorem OIEnd.I {w w':World} {L:List Int} {e:Ending} (h:OIEnd w L e w'):IEnd w L e w':=let ⟨v,e,ho,hb⟩:=h;⟨v,e,ownV_sli ho,hb⟩
end Sha
end Go.Proofs.YtddjdaocdfkgeaaGreatDoor
namespace Go.Proofs.YtddjdaocdfkgeaaGreatDoor
namespace Mem
open Go.RowKit
theorem wpList_slice_max {P:Program} {ops:Array Oper} {rest:List Oper} {op:Oper} {a:Act} {w:World} {Q:Exit→Act→World→Prop} (hgd:op.guard=none) (ty:TypeId) (x i j:Operand) (ho:op.op=.slice ty x none (some i) (some j))
 (elem:TypeId) (hu:P.underlying ty=some (.slice elem)) (z:Nat) (hs:(P.info? elem).map (·.size)=some z) (b o len cap k:Nat) (hx:a.eval x=.slice (some ⟨b,o,none⟩) len cap) (hi:a.eval i=.int .i64 (k:Int)) (hj:a.eval j=.int .i64 (k:Int)) (hk:k≤cap)
 (h:wpList P ops Q rest (a.put op.dst (.slice (some ⟨b,o,none⟩) k k)) w):wpList P ops Q (op::rest) a w:=by
 refine wpList_plain hgd fun K hK=>?_
 cases hq:P.info? elem with
 | none=>simp [hq] at hs
 | some q=>
  have hkl:(k:Int)≤(cap:Int):=by omega
  have hrun:(Instr.slice ty (.slice (some ⟨b,o,none⟩) len cap) none (some (.int .i64 (k:Int))) (some (.int .i64 (k:Int)))).run P w=.ok (.slice (some ⟨b,o,none⟩) k k) w:=by
   simp [Instr.slice,Instr.sliceBounds,Instr.sliceBound,asIntOf,Sem.run_bind,run_underlying hu,sizeOf,typeInfo,hq,hk,Addr.add_mid]
  have hat:(Instr.sliceAt ty (.slice (some ⟨b,o,none⟩) len cap) none (some (.int .i64 (k:Int))) (some (.int .i64 (k:Int)))).run P w=.ok (.slice (some ⟨b,o,none⟩) k k) w:=by
   simp [Instr.sliceAt,Sem.run_bind,run_underlying hu,hrun]
  unfold Oper.wp execOp
  simp only [ho,hx,hi,hj,Option.map_some,Option.map_none,Sem.run_bind,hat,Result.andThen_ok,Sem.run_pure]
  exact hK _ _ h
end Mem
namespace Sha
open Go.RowKit Mem
set_option maxRecDepth 100000
def QEnd (v:Value) (w:World) (e:Ending) (w':World):Prop:=e=.returned v∧w'=w
theorem within_any (z f m:Int) (w:World) (h0:0≤f) (h1:0≤m) (h2:f+m < 4000000000):Calls Tryz.prog 62 #[.int .i64 z,.int .i64 f,.int .i64 m] w (QEnd (.bool (decide (f≤z∧z < f+m))) w):=by
 by_cases a:f≤z
 ·by_cases b:z < f+m
  ·rw [show decide (f≤z∧z < f+m)=true from decide_eq_true ⟨a,b⟩]
   go_enter Tryz.func62,Tryz.ntmps62
   go_wp2_with fail
   go_ret
   exact ⟨rfl,rfl⟩
  ·rw [show decide (f≤z∧z < f+m)=false from decide_eq_false (fun h=>b h.2)]
   go_enter Tryz.func62,Tryz.ntmps62
   go_wp2_with fail
   go_ret
   exact ⟨rfl,rfl⟩
 ·rw [show decide (f≤z∧z < f+m)=false from decide_eq_false (fun h=>a h.1)]
  go_enter Tryz.func62,Tryz.ntmps62
  go_wp2_with fail
  go_ret
  exact ⟨rfl,rfl⟩
theorem nodes_any (m:Nat) (w:World) (h:m≤216):Calls Tryz.prog 67 #[.int .i64 (m:Int)] w (QEnd (.int .i64 (cnt m:Nat)) w):=by
 have h6:((m:Int)+6 - 1) / 6=((cnt m:Nat):Int):=by unfold cnt;omega
 have H6:=zh h6
 clear h6
 go_enter Tryz.func67,Tryz.ntmps67
 go_wp2_with fail
 go_ret
 exact ⟨by rw [←H6.out];go_num,rfl⟩
def psC (p:Nat):Array Value:=#[.int .i64 (p:Int)]
theorem psC_one (p:Nat):(psC p).all (·.oneCell')=true:=by simp [psC,Value.oneCell']
theorem infoPS:(Tryz.prog.info? 29).map (·.size)=some 1:=by kernel_rfl
theorem zeroPS (w:World):(zeroValue 29).run Tryz.prog w=.ok (.agg (psC 0)) w:=by kernel_rfl
theorem buildPS0 (w:World):(Instr.build 29 #[]).run Tryz.prog w=.ok (.agg (psC 0)) w:=by kernel_rfl
theorem buildPS (p:Nat) (w:World):(Instr.build 29 #[(0,.int .i64 (p:Int))]).run Tryz.prog w=.ok (.agg (psC p)) w:=by kernel_rfl
theorem pnew_bad (z:Int) (w:World) (h:z < 1∨216 < z):Calls Tryz.prog 21 #[.int .i64 z] w fun e w'=>e=.returned (.tuple #[.agg (psC 0),.int .i64 1])∧Below w.heap.size w w':=by
 obtain ⟨Z,hZ⟩:∃ Z,Z=psC 0:=⟨_,rfl⟩
 have zs:Z.size=1:=by rw [hZ];rfl
 have zo:Z.all (·.oneCell')=true:=by rw [hZ];exact psC_one 0
 have hx:∀ w,(zeroValue 29).run Tryz.prog w=.ok (.agg Z) w:=by rw [hZ];exact zeroPS
 have bn:∀ w,(Instr.build 29 #[]).run Tryz.prog w=.ok (.agg Z) w:=by rw [hZ];exact buildPS0
 rw [←hZ]
 have az:=at_new w Z 29
 have bz:Below w.heap.size w (w.alloc (.cells Z 29)):=(Below.refl _ _).alloc (Nat.le_refl _) _
 have ZS:=zh zs;have ZO:=zh zo;have BN:=zh bn;have AZ:=zh az;have BZ:=zh bz
 clear zs zo bn az bz hZ
 by_cases h0:z < 1
 ·go_enter Tryz.func21,Tryz.ntmps21
  go_upto_region 1 with fail
  clear hx
  generalize w.alloc (.cells Z 29)=w1 at *
  go_wp2_with (first
   | (refine Mem.wpList_build zr 29 _ #[] (.agg Z) zr (by simp) BN.out ?_)
   | (refine wpList_store_all zr 29 _ _ zr zr w.heap.size Z zr zr (by rw [ZS.out];exact infoPS) Z 29 AZ.out zr ZO.out ?_))
  try simp only [Exit.inBlock,Exit.then]
  refine ret_row_tmp zr w.heap.size 29 Z _ _ zr zr (AZ.out.row Z) Tryz.underlying29 zr (by rw [ZS.out];exact infoPS) ?_
  exact ⟨rfl,below_row BZ.out (Nat.le_refl _) Z⟩
 ·have h1:216 < z:=by omega
  clear h
  go_enter Tryz.func21,Tryz.ntmps21
  go_upto_region 1 with fail
  clear hx
  generalize w.alloc (.cells Z 29)=w1 at *
  go_wp2_with (first
   | (refine Mem.wpList_build zr 29 _ #[] (.agg Z) zr (by simp) BN.out ?_)
   | (refine wpList_store_all zr 29 _ _ zr zr w.heap.size Z zr zr (by rw [ZS.out];exact infoPS) Z 29 AZ.out zr ZO.out ?_))
  try simp only [Exit.inBlock,Exit.then]
  refine ret_row_tmp zr w.heap.size 29 Z _ _ zr zr (AZ.out.row Z) Tryz.underlying29 zr (by rw [ZS.out];exact infoPS) ?_
  exact ⟨rfl,below_row BZ.out (Nat.le_refl _) Z⟩
theorem pnew_good (p:Nat) (w:World) (h0:1≤p) (h1:p≤216):Calls Tryz.prog 21 #[.int .i64 (p:Int)] w fun e w'=>e=.returned (.tuple #[.agg (psC p),.int .i64 0])∧Below w.heap.size w w':=by
 obtain ⟨Z,hZ⟩:∃ Z,Z=psC 0:=⟨_,rfl⟩
 obtain ⟨D,hD⟩:∃ D,D=psC p:=⟨_,rfl⟩
 have zs:Z.size=1:=by rw [hZ];rfl
 have ds:D.size=1:=by rw [hD];rfl
 have dO:D.all (·.oneCell')=true:=by rw [hD];exact psC_one p
 have hx:∀ w,(zeroValue 29).run Tryz.prog w=.ok (.agg Z) w:=by rw [hZ];exact zeroPS
 have bn:∀ w,(Instr.build 29 #[(0,.int .i64 (p:Int))]).run Tryz.prog w=.ok (.agg D) w:=by rw [hD];exact buildPS p
 rw [←hD]
 have az:=at_new w Z 29
 have bz:Below w.heap.size w (w.alloc (.cells Z 29)):=(Below.refl _ _).alloc (Nat.le_refl _) _
 have ZS:=zh zs;have DS:=zh ds;have DO:=zh dO;have BN:=zh bn;have AZ:=zh az;have BZ:=zh bz
 have g0:¬ (p:Int) < 1:=by omega
 have g1:¬ (216:Int) < (p:Int):=by omega
 clear zs ds dO bn az bz hZ hD
 go_enter Tryz.func21,Tryz.ntmps21
 go_upto_region 1 with fail
 clear hx
 generalize w.alloc (.cells Z 29)=w1 at *
 go_wp2_with (first
  | (refine Mem.wpList_build zr 29 _ #[(0,.int .i64 (p:Int))] (.agg D) zr (by simp [Act.eval]) BN.out ?_)
  | (refine wpList_store_all zr 29 _ _ zr zr w.heap.size D zr zr (by rw [DS.out];exact infoPS) Z 29 AZ.out (by rw [DS.out,ZS.out]) DO.out ?_))
 try simp only [Exit.inBlock,Exit.then]
 refine ret_row_tmp zr w.heap.size 29 D _ _ zr zr (AZ.out.row D) Tryz.underlying29 zr (by rw [DS.out];exact infoPS) ?_
 exact ⟨rfl,below_row BZ.out (Nat.le_refl _) D⟩
theorem ppages_any (p:Nat) (w:World):Calls Tryz.prog 33 #[.agg (psC p)] w (VEnd (.int .i64 (p:Int)) w):=by
 have c0:(w.alloc (.cells (psC p) 29)).cell? ⟨w.heap.size,0,none⟩=some (.int .i64 (p:Int)):=((at_new w (psC p) _).cell 0).trans rfl
 have hb:Below w.heap.size w (w.alloc (.cells (psC p) 29)):=(Below.refl _ _).alloc (Nat.le_refl _) _
 have ms:(psC p).size=1:=rfl
 obtain ⟨M,hM⟩:∃ M,M=psC p:=⟨_,rfl⟩
 rw [←hM] at c0 hb ms ⊢
 have HB:=zh hb;have MS:=zh ms
 clear hb ms hM
 go_enter Tryz.func33,Tryz.ntmps33
 go_wp2_with fail
 go_ret
 exact ⟨rfl,HB.out⟩
end Sha
end Go.Proofs.YtddjdaocdfkgeaaGreatDoor
