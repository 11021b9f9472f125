/- The program's shape: levels. The program's shape: Items, Blocks, Levels, Root, Level. -/
import Derived.Test.YtplmfmpbkjnbaaaGreatDoorBQ16
set_option maxRecDepth 100000
set_option maxHeartbeats 1000000
namespace Go.Proofs.YtplmfmpbkjnbaaaGreatDoor
namespace Sha
open Go.RowKit Mem
set_option maxRecDepth 100000
def lvC (p k:Nat):Array Value:=#[.int .i64 (stn p k:Nat),.int .i64 (lvn p k:Nat)]
def lvL (p n:Nat):List Value:=(List.range n).flatMap fun k=>(lvC p k).toList
theorem lvL_succ (p n:Nat):lvL p (n+1)=lvL p n++(lvC p n).toList:=by
 unfold lvL
 rw [List.range_succ,List.flatMap_append]
 simp
theorem lvL_len (p n:Nat):(lvL p n).length=n*2:=by
 induction n with
 | zero=>rfl
 | succ n ih=>rw [lvL_succ,List.length_append,ih];show n*2+2=(n+1)*2;omega
theorem lvL_get (p k:Nat):∀ n,k < n→(lvL p n)[k*2]?=some (.int .i64 (stn p k:Nat))∧(lvL p n)[k*2+1]?=some (.int .i64 (lvn p k:Nat)):=by
 intro n
 induction n with
 | zero=>intro h;omega
 | succ n ih=>
  intro h
  have hl:=lvL_len p n
  rw [lvL_succ]
  by_cases e:k < n
  ·rw [List.getElem?_append_left (by omega),List.getElem?_append_left (by omega)]
   exact ih e
  ·have:k=n:=by omega
   subst this
   rw [List.getElem?_append_right (by omega),List.getElem?_append_right (by omega),hl,Nat.sub_self,Nat.add_sub_cancel_left]
   exact ⟨rfl,rfl⟩
structure LvR (w:World) (g p:Nat) (C:Array Value):Prop where
 row:At w g C 198
 size:C.size=8
 c0:∀ k,k≤topn p→C[k*2]?=some (.int .i64 (stn p k:Nat))
 c1:∀ k,k≤topn p→C[k*2+1]?=some (.int .i64 (lvn p k:Nat))
theorem LvR.cell0 {w:World} {g p k:Nat} {C:Array Value} (h:LvR w g p C) (hk:k≤topn p):w.cell? ⟨g,k*2,none⟩=some (.int .i64 (stn p k:Nat)):=(h.row.cell _).trans (h.c0 k hk)
theorem LvR.cell1 {w:World} {g p k:Nat} {C:Array Value} (h:LvR w g p C) (hk:k≤topn p):w.cell? ⟨g,k*2+1,none⟩=some (.int .i64 (lvn p k:Nat)):=(h.row.cell _).trans (h.c1 k hk)
theorem LvR.below {w w':World} {g p:Nat} {C:Array Value} (h:LvR w g p C) (hb:Below w.heap.size w w'):LvR w' g p C:=⟨h.row.below hb h.row.lt,h.size,h.c0,h.c1⟩
theorem LvR.ext {w:World} {g p k:Nat} {C:Array Value} (h:LvR w g p C) (hk:k≤topn p):C.extract (k*2) (k*2+2)=#[.int .i64 (stn p k:Nat),.int .i64 (lvn p k:Nat)]:=by
 have ht:=(top_le p).2
 have hs:=h.size
 have e0:=h.c0 k hk
 have e1:=h.c1 k hk
 rw [Array.getElem?_eq_getElem (by omega)] at e0 e1
 injection e0 with e0
 injection e1 with e1
 apply Array.ext
 ·simp;omega
 ·intro i h1 h2
  simp only [List.size_toArray,List.length_cons,List.length_nil] at h2
  rw [Array.getElem_extract]
  match i,h2 with
  | 0,_=>simpa using e0
  | 1,_=>simpa using e1
theorem lvR_of {w:World} {B g p n:Nat} (h:w.ownsRow B 198 2 (.slice (some ⟨g,0,none⟩) n 4) n (lvL p n)) (hn:n=topn p+1):∃ C,LvR w g p C:=by
 rcases h.2 with ⟨e,_⟩ | ⟨g',cap,cur,e,_,hg,_,_,hs,ht⟩
 ·cases e
 ·injection e with e1 _ e3
  injection e1 with e1
  injection e1 with e1
  subst e1 e3
  refine ⟨cur,hg,hs,fun k hk=>?_,fun k hk=>?_⟩
  ·have a:=(lvL_get p k n (by omega)).1
   rw [←ht,List.getElem?_take,if_pos (by omega)] at a
   rw [←Array.getElem?_toList];exact a
  ·have a:=(lvL_get p k n (by omega)).2
   rw [←ht,List.getElem?_take,if_pos (by omega)] at a
   rw [←Array.getElem?_toList];exact a
structure LS (u w:World) (g l p k n:Nat):Prop where
 own:w.ownsRow u.heap.size 198 2 (.slice (some ⟨g,0,none⟩) n 4) n (lvL p n)
 last:At w l (lvC p k) 198
 b:Below u.heap.size u w
 hl:u.heap.size≤l
 ne:g≠l
theorem LS.start {u w1 w3:World} (p:Nat) (hb:Below u.heap.size u w1) (hg:w1.grownBy w3 none) (ho:w3.ownsRow u.heap.size 198 2 (.slice (some ⟨w1.heap.size,0,none⟩) 0 4) 0 []):LS u (w3.alloc (.cells (lvC p 0) 198)) w1.heap.size w3.heap.size p 0 0:=by
 have hb3:=hb.grown hg hb.size (fun k e=>by cases e)
 have hlt:=(World.ownsRow.lt ho w1.heap.size rfl).2
 exact ⟨World.ownsRow.alloc ho _,at_new w3 _ _,hb3.alloc hb3.size _,hb3.size,by omega⟩
theorem LS.lts {u w:World} {g l p k n:Nat} (h:LS u w g l p k n):g < w.heap.size∧l < w.heap.size∧u.heap.size≤g:=⟨(World.ownsRow.lt h.own g rfl).2,h.last.lt,(World.ownsRow.lt h.own g rfl).1⟩
theorem LS.app {u w w':World} {g l p k n:Nat} {c:Array Value} {t:TypeId} (h:LS u w g l p k n) (hc:(lvC p n).toList=c.toList) (hg:(w.alloc (.cells c t)).grownBy w' (some g)) (ho:w'.ownsRow u.heap.size 198 2 (.slice (some ⟨g,0,none⟩) (n+1) 4) (n+1) (lvL p n++c.toList)):LS u w' g l p k (n+1):=by
 have hs:(w.alloc (.cells c t)).heap.size=w.heap.size+1:=by simp
 have hl:=h.lts
 refine ⟨by rw [lvL_succ,hc];exact ho,?_,?_,h.hl,h.ne⟩
 ·have ha:=h.last.alloc (.cells c t)
  unfold At at ha ⊢
  rw [hg.block l (by omega) (fun e=>h.ne (by injection e with e;exact e.symm))]
  exact ha
 ·exact (h.b.alloc h.b.size _).grown hg (by have:=h.b.size;omega) (fun k e=>by injection e with e;omega)
theorem LS.set {u w:World} {g l p k n:Nat} {D:Array Value} (h:LS u w g l p k n) (hD:D=lvC p (k+1)):LS u (w.setRow l D) g l p (k+1) n:=by
 subst hD
 refine ⟨ownsRow_keep h.own (fun b e=>?_),h.last.row _,below_row h.b h.hl _,h.hl,h.ne⟩
 have:b=g:=by simpa [Value.ownBlock] using e.symm
 subst this
 exact setRow_other w l b _ h.ne
theorem LS.drew {u w:World} {g l p k n:Nat} (h:LS u w g l p k n):LS u w.drew g l p k n:=⟨h.own.drew,h.last,h.b.drew,h.hl,h.ne⟩
theorem LS.c0 {u w:World} {g l p k n:Nat} (h:LS u w g l p k n):w.cell? ⟨l,0,none⟩=some (.int .i64 (stn p k:Nat)):=(h.last.cell 0).trans rfl
theorem LS.c1 {u w:World} {g l p k n:Nat} (h:LS u w g l p k n):w.cell? ⟨l,1,none⟩=some (.int .i64 (lvn p k:Nat)):=(h.last.cell 1).trans rfl
theorem infoLv:(Tryz.prog.info? 198).map (·.size)=some 2:=by kernel_rfl
theorem elemLv:(Tryz.prog.info? 198).map (fun i=>(i.zero,i.size,i.bytes))=some (some (.agg #[.int .i64 0,.int .i64 0]),2,16):=by kernel_rfl
theorem buildLv (p:Nat) (w:World):(Instr.build 198 #[(1,.int .i64 (p:Int))]).run Tryz.prog w=.ok (.agg #[.int .i64 0,.int .i64 (p:Int)]) w:=by kernel_rfl
theorem two_one (a b:Int):(#[.int .i64 a,.int .i64 b]:Array Value).all (·.oneCell')=true:=by simp [Value.oneCell']
theorem two_one' (a b:Int):∀ u∈[Value.int .i64 a,Value.int .i64 b],u.oneCell'=true:=by
 intro u hu
 simp only [List.mem_cons,List.not_mem_nil,or_false] at hu
 rcases hu with rfl | rfl <;> rfl
theorem lit_cells (w:World) (c:Array Value) (t:TypeId):∀ j u,c.toList[j]?=some u→(w.alloc (.cells c t)).cell? ((⟨w.heap.size,0,none⟩:Addr).add j)=some u:=by
 intro j u h
 rw [Addr.add_mid,Nat.zero_add,(at_new w c t).cell,←Array.getElem?_toList]
 exact h
def LvEnd (p:Nat) (w:World) (e:Ending) (w':World):Prop:=∃ g C,e=.returned (.slice (some ⟨g,0,none⟩) (topn p+1) (topn p+1))∧LvR w' g p C∧Below w.heap.size w w'
def slen:Value→Nat
 | .slice _ n _=>n
 | _=>0
theorem plevels_0 (w:World):Calls Tryz.prog 111 #[.agg (psC 0)] w (VEnd (.slice none 0 0) w):=by
 have c0:(w.alloc (.cells (psC 0) 31)).cell? ⟨w.heap.size,0,none⟩=some (.int .i64 0):=((at_new w (psC 0) _).cell 0).trans rfl
 have hb:Below w.heap.size w (w.alloc (.cells (psC 0) 31)):=(Below.refl _ _).alloc (Nat.le_refl _) _
 have ms:(psC 0).size=1:=rfl
 obtain ⟨M,hM⟩:∃ M,M=psC 0:=⟨_,rfl⟩
 rw [←hM] at c0 hb ms ⊢
 have HB:=zh hb;have MS:=zh ms
 clear hb ms hM
 go_enter Tryz.func111,Tryz.ntmps111
 go_wp2_with fail
 go_ret
 exact ⟨rfl,HB.out⟩
theorem plevels_any (p:Nat) (w:World) (h0:1≤p) (h1:p≤216):Calls Tryz.prog 111 #[.agg (psC p)] w (LvEnd p w):=by
 obtain ⟨i2,hi2,hz2,hs2,hb2⟩:=info_parts elemLv
 have c0:(w.alloc (.cells (psC p) 31)).cell? ⟨w.heap.size,0,none⟩=some (.int .i64 (p:Int)):=((at_new w (psC p) _).cell 0).trans rfl
 have hb:Below w.heap.size w (w.alloc (.cells (psC p) 31)):=(Below.refl _ _).alloc (Nat.le_refl _) _
 have ms:(psC p).size=1:=rfl
 obtain ⟨M,hM⟩:∃ M,M=psC p:=⟨_,rfl⟩
 rw [←hM] at c0 hb ms ⊢
 have ht:=top_le p
 have hst:∀ w3,(w.alloc (.cells M 31)).grownBy w3 none→w3.ownsRow w.heap.size 198 2 (.slice (some ⟨(w.alloc (.cells M 31)).heap.size,0,none⟩) 0 4) 0 []→LS w (w3.alloc (.cells #[.int .i64 0,.int .i64 (p:Int)] 198)) (w.alloc (.cells M 31)).heap.size w3.heap.size p 0 0:=fun w3 a b=>LS.start p hb a b
 obtain ⟨w1,hw1⟩:∃ w1,w1=w.alloc (.cells M 31):=⟨_,rfl⟩
 have hlt:w.heap.size < w1.heap.size:=by rw [hw1];simp
 rw [←hw1] at c0 hb hst
 have hx:∀ w,(zeroValue 198).run Tryz.prog w=.ok (.agg #[.int .i64 0,.int .i64 0]) w:=fun w=>by kernel_rfl
 have HB:=zh hb;have MS:=zh ms;have I2:=zh hi2;have Z2:=zh hz2;have S2:=zh hs2;have B2:=zh hb2;have ST:=zh hst;have BS:=zh hb.size;have LT:=zh hlt;have BN:=zh (buildLv p)
 have p0:¬ (p:Int)=0:=by omega
 clear hb ms hM hi2 hz2 hs2 hb2 hst hlt
 go_enter Tryz.func111,Tryz.ntmps111
 go_upto_region 1 with fail
 rw [←hw1]
 clear hw1
 go_upto_region 3 with fail
 go_upto_region 4 with (refine wpList_make_own _ zr _ _ 195 zr w.heap.size 198 i2 (.agg #[.int .i64 0,.int .i64 0]) 2 Tryz.underlying195 I2.out Z2.out S2.out .i64 .i64 4 4 zr zr zr (by rw [B2.out];decide) (by decide) BS.out ?_;intro w3 ho3 hg3)
 have c3:w3.cell? ⟨w.heap.size,0,none⟩=some (.int .i64 (p:Int)):=(World.cell?_of_block (hg3.block _ LT.out (fun e=>by cases e))).trans c0
 have S0:=zh (ST.out w3 hg3 ho3)
 clear c0 hg3 ho3 ST Z2 B2 BS
 go_upto_region 5 with (first
  | (refine Mem.wpList_build zr 198 _ #[(1,.int .i64 (p:Int))] (.agg #[.int .i64 0,.int .i64 (p:Int)]) zr (by simp [Act.eval]) BN.out ?_)
  | (refine wpList_store_new zr 198 _ _ zr zr #[.int .i64 0,.int .i64 (p:Int)] _ _ zr zr infoLv zr (two_one _ _) ?_))
 obtain ⟨g,hg⟩:∃ g,g=w1.heap.size:=⟨_,rfl⟩
 obtain ⟨l,hl⟩:∃ l,l=w3.heap.size:=⟨_,rfl⟩
 rw [←hg,←hl] at S0
 rw [←hg,←hl]
 clear hx hg hl BN c3
 generalize (w3.alloc (.cells #[.int .i64 0,.int .i64 (p:Int)] 198))=w4 at *
 go_wp2_with (first
  | (refine wpList_load_all zr 198 _ zr l zr _ Tryz.underlying198 zr #[.int .i64 0,.int .i64 (p:Int)] _ S0.out.last infoLv ?_)
  | (at_builtin;go_loud (refine wpList_append_fits _ zr _ _ 195 zr w.heap.size 198 i2 2 Tryz.underlying195 I2.out S2.out g 0 4 (lvL p 0) zr (World.ownsRow.alloc S0.out.own _) ⟨w4.heap.size,0,none⟩ 1 1 [.int .i64 0,.int .i64 (p:Int)] zr zr (lit_cells w4 _ _) (two_one' _ _) (by omega) ?_);intro w6 ho6 hg6;have S1:=zh (S0.out.app (by first | rfl | exact rfl) hg6 ho6);clear ho6 hg6))
 clear S0
 go_loopw [3] (fun v wr=>∃ k n,n=k+1∧k≤topn p∧v=.slice (some ⟨g,0,none⟩) n 4∧LS w wr g l p k n) (fun v _=>5 - slen v)
 case atStart=>exact ⟨0,1,rfl,by omega,rfl,S1.out⟩
 case round=>
  obtain ⟨k,n,hn,hk,rfl,hS⟩:=hrel
  clear S1
  have hti:=top_iff p k h0 h1 (by omega)
  have cm:=hS.c1
  have cf:=hS.c0
  have hb9:=stn_le p k (by omega) h1
  obtain ⟨m,hm⟩:∃ m,m=lvn p k:=⟨_,rfl⟩
  obtain ⟨f,hf⟩:∃ f,f=stn p k:=⟨_,rfl⟩
  rw [←hm] at hti cm hb9
  rw [←hf] at cf hb9
  have SR:=zh hS;have HN:=zh hn;have HM:=zh hm;have HF:=zh hf
  have hn4:n≤4:=by omega
  clear hS
  by_cases hgo:k+1≤topn p
  ·have hcase:k=0∨(¬ k=0∧1 < m):=by have:=hti.mpr hgo;omega
   have hn3:n+1≤4:=by omega
   go_upto_region 6 with fail
   go_cut [23] (fun x wx=>x=.bool true∧wr=wx)
   case first=>
    rcases hcase with hk0 | ⟨hk0,hc1⟩
    ·have e1:(n:Int)=1:=by omega
     clear hn hm hf
     go_wp2_with fail
     go_meet
     exact ⟨rfl,rfl⟩
    ·have e1:¬ (n:Int)=1:=by omega
     have e2:(1:Int) < (m:Int):=by omega
     clear hn hm hf
     go_wp2_with fail
     go_meet
     exact ⟨rfl,rfl⟩
   obtain ⟨rfl,hwx⟩:=hcut
   subst hwx
   have hcn:=lvn_cnt p k (by omega)
   have hst:=stn_lvn p k (by omega)
   rw [←hm] at hcn
   rw [←hm,←hf] at hst
   have hD:(#[.int .i64 ((f:Int)+(m:Int)),.int .i64 ((cnt m:Nat):Int)]:Array Value)=lvC p (k+1):=by
    unfold lvC;rw [hcn,hst,Int.natCast_add]
   have HD:=zh hD;have NO:=zh (fun w=>nodes_any m w hb9.2)
   have S7:=zh SR.out.drew
   have cf7:wr.drew.cell? ⟨l,0,none⟩=some (.int .i64 (f:Int)):=cf
   have cm7:wr.drew.cell? ⟨l,1,none⟩=some (.int .i64 (m:Int)):=cm
   clear hcn hst hD hm hf hn hti hcase cf cm
   go_upto_region 7 with fail
   go_still_tail 9,(by kernel_rfl)
   still_call (NO.out _)
   repeat still_step
   refine wpStill_nil ?_
   have hw:IntKind.i64.wrap ((f:Int)+(m:Int))=(f:Int)+(m:Int):=by rw [IntKind.wrap_i64];omega
   rw [hw]
   clear hw cf7 cm7
   change wpList _ _ _ _ _ wr.drew
   generalize wr.drew=w7 at *
   obtain ⟨D,hDD⟩:∃ D:Array Value,D=#[.int .i64 ((f:Int)+(m:Int)),.int .i64 ((cnt m:Nat):Int)]:=⟨_,rfl⟩
   have hs8:LS w (w7.setRow l #[.int .i64 ((f:Int)+(m:Int)),.int .i64 ((cnt m:Nat):Int)]) g l p (k+1) n:=S7.out.set HD.out
   have S8:=zh hs8
   clear hs8 hDD
   go_upto_region 8 with (refine wpList_store_all zr 198 _ _ zr zr l #[.int .i64 ((f:Int)+(m:Int)),.int .i64 ((cnt m:Nat):Int)] zr zr infoLv _ 198 S7.out.last zr (two_one _ _) ?_)
   generalize (w7.setRow l #[.int .i64 ((f:Int)+(m:Int)),.int .i64 ((cnt m:Nat):Int)])=w8 at *
   clear S7 SR
   have hl8:At w8 l #[.int .i64 ((f:Int)+(m:Int)),.int .i64 ((cnt m:Nat):Int)] 198:=by rw [HD.out];exact S8.out.last
   have L8:=zh hl8
   clear hl8
   go_wp2_with (first
    | (refine wpList_load_all zr 198 _ zr l zr _ Tryz.underlying198 zr #[.int .i64 ((f:Int)+(m:Int)),.int .i64 ((cnt m:Nat):Int)] _ L8.out infoLv ?_)
    | (at_builtin;refine wpList_append_fits _ zr _ _ 195 zr w.heap.size 198 i2 2 Tryz.underlying195 I2.out S2.out g n 4 (lvL p n) zr (World.ownsRow.alloc S8.out.own _) ⟨w8.heap.size,0,none⟩ 1 1 [.int .i64 ((f:Int)+(m:Int)),.int .i64 ((cnt m:Nat):Int)] zr zr (lit_cells w8 _ _) (two_one' _ _) (by omega) ?_;intro w6 ho6 hg6;have S9:=zh (S8.out.app (by rw [HN.out,←HD.out]) hg6 ho6);clear ho6 hg6))
   go_roundw
   case rel=>exact ⟨k+1,n+1,by rw [HN.out],hgo,rfl,S9.out⟩
   case measure=>simp [slen];omega
  ·have hkt:k=topn p:=by omega
   have hcase:¬ k=0∧¬ 1 < m:=⟨by omega,fun h=>hgo (hti.mp (Or.inr h))⟩
   have e1:¬ (n:Int)=1:=by omega
   have e2:¬ (1:Int) < (m:Int):=by omega
   have hn1:n=topn p+1:=by omega
   obtain ⟨CC,hCC⟩:=lvR_of SR.out.own hn1
   have hbb:=SR.out.b
   have RR:=zh hCC;have BB:=zh hbb;have N1:=zh hn1
   clear hCC hbb hn1 hcase hti hkt hn hm hf cf SR
   go_wp2_with (refine wpList_slice_max zr 195 _ _ _ zr 198 Tryz.underlying195 2 infoLv g 0 n 4 n zr zr zr hn4 ?_)
   go_ret
   exact ⟨g,CC,by rw [←N1.out];rfl,RR.out,BB.out⟩
theorem zeroLv (w:World):(zeroValue 198).run Tryz.prog w=.ok (.agg #[.int .i64 0,.int .i64 0]) w:=by kernel_rfl
theorem pitems_0 (w:World):Calls Tryz.prog 70 #[.agg (psC 0)] w (VEnd (.int .i64 0) w):=by
 have lv:=fun w=>plevels_0 w
 have ha:=at_new w (psC 0) 31
 have hb:Below w.heap.size w (w.alloc (.cells (psC 0) 31)):=(Below.refl _ _).alloc (Nat.le_refl _) _
 have ms:(psC 0).size=1:=rfl
 obtain ⟨M,hM⟩:∃ M,M=psC 0:=⟨_,rfl⟩
 rw [←hM] at lv ha hb ms ⊢
 obtain ⟨w1,hw1⟩:∃ w1,w1=w.alloc (.cells M 31):=⟨_,rfl⟩
 rw [←hw1] at ha hb
 have HB:=zh hb;have MS:=zh ms;have LV:=zh lv;have AX:=zh ha;have BS:=zh hb.size
 clear hb ms hM lv ha
 go_enter Tryz.func70,Tryz.ntmps70
 go_upto_region 1 with fail
 rw [←hw1]
 clear hw1
 go_wp2_with (refine wpList_load_all zr 31 _ zr w.heap.size zr _ Tryz.underlying31 zr M _ AX.out (by rw [MS.out];exact infoPS) ?_)
 refine (LV.out _).mono ?_
 rintro e w2 ⟨rfl,hb2⟩
 have B2:=zh hb2
 clear hb2
 go_wp2_with fail
 go_loopw [3,9] (fun s v wr=>s=.int .i64 0∧v=.int .i64 0∧wr=w2) (fun _ _ _=>0)
 case atStart=>exact ⟨rfl,rfl,rfl⟩
 case round=>
  obtain ⟨rfl,rfl,rfl⟩:=hrel
  go_wp2_with fail
  go_ret
  exact ⟨rfl,HB.out.trans (B2.out.mono BS.out)⟩
theorem pitems_pos (p:Nat) (w:World) (h0:1≤p) (h1:p≤216):Calls Tryz.prog 70 #[.agg (psC p)] w (VEnd (.int .i64 (itn p:Nat)) w):=by
 have lv:=fun w=>plevels_any p w h0 h1
 have ha:=at_new w (psC p) 31
 have hb:Below w.heap.size w (w.alloc (.cells (psC p) 31)):=(Below.refl _ _).alloc (Nat.le_refl _) _
 have ms:(psC p).size=1:=rfl
 obtain ⟨M,hM⟩:∃ M,M=psC p:=⟨_,rfl⟩
 rw [←hM] at lv ha hb ms ⊢
 obtain ⟨w1,hw1⟩:∃ w1,w1=w.alloc (.cells M 31):=⟨_,rfl⟩
 rw [←hw1] at ha hb
 have ht:=top_le p
 have hst:=fun k hk=>stn_lvn p k hk
 have hbd:=fun k hk=>stn_le p k hk h1
 have hit:itn p=stn p (topn p+1):=rfl
 obtain ⟨t,htt⟩:∃ t,t=topn p:=⟨_,rfl⟩
 have hle:∀ k,k < t+1→k≤topn p:=fun k hk=>by omega
 unfold LvEnd at lv
 rw [←htt] at ht hit lv
 rw [hit]
 have HB:=zh hb;have MS:=zh ms;have LV:=zh lv;have AX:=zh ha;have BS:=zh hb.size;have ST:=zh hst;have BD:=zh hbd;have LE:=zh hle
 clear hb ms hM lv ha hst hbd hit hle htt
 go_enter Tryz.func70,Tryz.ntmps70
 go_upto_region 1 with fail
 rw [←hw1]
 clear hw1
 go_wp2_with (refine wpList_load_all zr 31 _ zr w.heap.size zr _ Tryz.underlying31 zr M _ AX.out (by rw [MS.out];exact infoPS) ?_)
 refine (LV.out _).mono ?_
 rintro e w2 ⟨g,C,rfl,hr,hb2⟩
 have B2:=zh hb2;have R2:=zh hr
 clear hb2 hr
 go_wp2_with fail
 go_loopw [3,9] (fun s v wr=>∃ k:Nat,k≤t+1∧s=.int .i64 (stn p k:Nat)∧v=.int .i64 (k:Int)∧Below w2.heap.size w2 wr) (fun _ v _=>t+1 - (intOf v).toNat)
 case atStart=>exact ⟨0,by omega,rfl,rfl,Below.refl _ _⟩
 case round=>
  obtain ⟨k,hk,rfl,rfl,hbw⟩:=hrel
  by_cases hlt:k < t+1
  ·have hlt':(k:Int) < (t:Int)+1:=by omega
   have hlt2:(k:Int) < ((t+1:Nat):Int):=by omega
   have RW:=zh (R2.out.below hbw)
   have hs:=ST.out k (by omega)
   have hd:=BD.out k (by omega)
   have hext:=RW.out.ext (LE.out k hlt)
   obtain ⟨f,hf⟩:∃ f,f=stn p k:=⟨_,rfl⟩
   obtain ⟨m,hm⟩:∃ m,m=lvn p k:=⟨_,rfl⟩
   rw [←hf,←hm] at hs hd hext
   rw [←hf]
   have c1:(wr.alloc (.cells #[.int .i64 (f:Int),.int .i64 (m:Int)] 198)).cell? ⟨wr.heap.size,1,none⟩=some (.int .i64 (m:Int)):=((at_new wr _ _).cell 1).trans rfl
   have hx:=zeroLv
   have B4:Hid (Below w2.heap.size w2 (wr.alloc (.cells #[.int .i64 (f:Int),.int .i64 (m:Int)] 198))):=zh (hbw.alloc hbw.size _)
   have EX:=zh hext;have HS:=zh hs
   have hsz:k*2+2≤C.size:=by rw [RW.out.size];omega
   have SZ:=zh hsz
   clear hext hs hf hm hbw hsz
   go_wp2_with (first
    | (refine wpList_load_is zr 198 _ zr g (k*2) 2 zr _ Tryz.underlying198 zr infoLv C 198 RW.out.row SZ.out #[.int .i64 (f:Int),.int .i64 (m:Int)] EX.out ?_)
    | (refine wpList_store_new zr 198 _ _ zr zr #[.int .i64 (f:Int),.int .i64 (m:Int)] _ _ zr zr infoLv zr (two_one _ _) ?_))
   go_roundw
   case rel=>exact ⟨k+1,by omega,by rw [HS.out];go_num,by go_num,B4.out⟩
   case measure=>simp [intOf];omega
  ·have hke:k=t+1:=by omega
   have hge:¬ (k:Int) < (t:Int)+1:=by omega
   subst hke
   have BW:=zh hbw
   clear hbw
   go_wp2_with fail
   go_ret
   exact ⟨rfl,HB.out.trans ((B2.out.trans (BW.out.mono B2.out.size)).mono BS.out)⟩
theorem itn_0:itn 0=0:=rfl
theorem pitems_any (p:Nat) (w:World) (h1:p≤216):Calls Tryz.prog 70 #[.agg (psC p)] w (VEnd (.int .i64 (itn p:Nat)) w):=by
 rcases Nat.eq_zero_or_pos p with h | h
 ·subst h;exact pitems_0 w
 ·exact pitems_pos p w h h1
end Sha
end Go.Proofs.YtplmfmpbkjnbaaaGreatDoor
