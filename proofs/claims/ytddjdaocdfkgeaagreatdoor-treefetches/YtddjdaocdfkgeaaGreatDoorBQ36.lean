/- Package dev: Read: its walk. -/
import Derived.RangeFuncNested
import Derived.RangeFuncBound
import Derived.RangeFuncCalls
import Derived.RangeFuncLeaves
import Derived.Shelf.Abstract
import Derived.Shelf.RegionOpen
import Derived.WalkKit
import Derived.OwnWalkIn
import Derived.TacticsInMore
import Derived.LoopNIn
import Derived.LoopIn
import Derived.Test.YtddjdaocdfkgeaaGreatDoorBQ00
import Derived.Test.YtddjdaocdfkgeaaGreatDoorBQ33
set_option maxRecDepth 100000
set_option maxHeartbeats 4000000
namespace Go.Proofs.YtddjdaocdfkgeaaGreatDoor
namespace Sha
open Go.RowKit Go.Shelf Mem
attribute [local go_sem] Oper.semAt_some
def wsAt (ws:List (Nat × Value)) (j:Nat):Nat × Value:=ws.getD j (0,.slice none 0 0)
def wArg (ws:List (Nat × Value)) (M c:Nat):Array Value:=#[.agg (wRow (wsAt ws (M - 1 - c)).1 (wsAt ws (M - 1 - c)).2)]
theorem pfrom_any (n:Nat) (hn:1≤n) {br M capw n0:Nat} {aw:Option Addr} {ws:List (Nat × Value)} {w0:World} (hM:M≤1000) (hbr:br < n0) (hc1:w0.cell? ⟨br,1,none⟩=some (.slice aw M capw))
 (hws:∀ j,j < M→∃ b o,aw=some ⟨b,o,none⟩∧b < n0∧w0.cell? ⟨b,o+j*2,none⟩=some (.int .i64 ((wsAt ws j).1:Int))∧w0.cell? ⟨b,o+j*2+1,none⟩=some (wsAt ws j).2) :
 Gives Fence.wide n Tryz.prog 28 #[rq br] M (wArg ws M) n0 w0:=by
 intro l J Jx W hW hY h0
 have hc1:W.cell? ⟨br,1,none⟩=some (.slice aw M capw):=by rw [hW.cell (p:=⟨br,1,none⟩) hbr];exact hc1
 refine callsIn_of_wp Tryz.func28 rfl trivial ?_ rfl
 simp only [Tryz.ntmps28,List.size_toArray,List.length_cons,List.length_nil,Nat.reduceAdd,Nat.reduceSub,Array.replicate_succ,Array.replicate_zero,List.push_toArray,List.append_toArray,List.nil_append,List.cons_append]
 have HY:=zh hY;have HWS:=zh hws;have HW:=zh hW
 have J0:Hid (J (M - M) W):=by rw [Nat.sub_self];exact h0
 clear hY hws hW h0
 gi_wp2
 gi_loopw [4] (fun i wr=>∃ k:Nat,k≤M∧i=.int .i64 ((k:Int) - 1)∧J (M - k) wr∧Below n0 W wr) (fun i _=>(intOf i+1).toNat)
 case atStart=>exact ⟨M,Nat.le_refl _,rfl,J0.out,Below.refl _ _⟩
 case round=>
  obtain ⟨k,hk,rfl,hJ,hB⟩:=hrel
  cases k with
  | zero=>
   have HJ:=zh hJ
   clear hJ hB J0
   gi_wp2
   go_end0
   exact ⟨⟨_,rfl⟩,.inl HJ.out⟩
  | succ k=>
   have hi:((k+1:Nat):Int) - 1=(k:Int):=by omega
   rw [hi]
   have hkM:(k:Int) < (M:Int):=by omega
   have hpos:(0:Int)≤(k:Int):=by omega
   obtain ⟨b,o,e1,hb,cn,ch⟩:=HWS.out k (by omega)
   subst e1
   have e1:M - 1 - (M - (k+1))=k:=by omega
   obtain ⟨fn,tmps,assign,body,hy,hR⟩:=HY.out (M - (k+1)) wr (by omega) hJ
   unfold wArg wRow at hy
   rw [e1] at hy
   have cbr:wr.cell? ⟨br,1,none⟩=some (.slice (some ⟨b,o,none⟩) M capw):=by rw [hB.cell (p:=⟨br,1,none⟩) hbr];exact hc1
   have cn:wr.cell? ⟨b,o+k*2,none⟩=some (.int .i64 ((wsAt ws k).1:Int)):=by rw [(HW.out.trans hB).cell (p:=⟨b,o+k*2,none⟩) hb];exact cn
   have ch:wr.cell? ⟨b,o+k*2+1,none⟩=some (wsAt ws k).2:=by rw [(HW.out.trans hB).cell (p:=⟨b,o+k*2+1,none⟩) hb];exact ch
   have e2:M - (k+1)+1=M - k:=by omega
   rw [e2] at hR
   have HR:=zh hR;have HB:=zh hB
   clear hR hB J0 hi hJ
   generalize wsAt ws k=p at *
   obtain ⟨q,vh⟩:=p
   gi_wp2
   refine HR.out.mono ?_
   rintro e W3 (⟨rfl,hJ3,hk3⟩ | ⟨rfl,hJx3⟩)
   ·have J3:=zh hJ3;have K3:=zh hk3
    clear hJ3 hk3
    gi_wp2
    go_roundw
    case rel=>exact ⟨k,by omega,rfl,J3.out,HB.out.trans K3.out⟩
    case measure=>simp [intOf]
   ·have J3:=zh hJx3
    clear hJx3
    gi_wp2
    refine bodyPost_ret (results_none rfl _ _ _) rfl ?_
    exact ⟨⟨_,rfl⟩,.inr ⟨M - (k+1),by omega,J3.out⟩⟩
theorem pw_ws {G D:Foot} {br bb:Nat} {w:World} {s:St6} {a:Option Addr} {n cap:Nat} {vs vt:Value} (m:PM G D br bb w s (.slice a n cap) vs vt) :
 ∃ ws:List (Nat × Value),∀ j,j < s.w.length→(∃ b o,a=some ⟨b,o,none⟩∧b < w.heap.size∧w.cell? ⟨b,o+j*2,none⟩=some (.int .i64 ((wsAt ws j).1:Int))∧w.cell? ⟨b,o+j*2+1,none⟩=some (wsAt ws j).2)∧(wsAt ws j).1=(s.w.getD j (0,[])).1∧SlB D w (wsAt ws j).2 (s.w.getD j (0,[])).2:=by
 obtain ⟨ws,h1,h2⟩:=m.hw
 refine ⟨ws,fun j hj=>?_⟩
 have h3:=ownsRow_slR h2
 have hn:n=s.w.length:=by obtain ⟨_,_,_,e,_⟩:=h3;injection e
 subst hn
 obtain ⟨b,o,ea,_,hc⟩:=slR_at h3 hj
 obtain ⟨p,hp,hp1,hp2⟩:=h1.at (List.getElem?_eq_getElem hj)
 obtain ⟨q1,q2⟩:=putC_at ws j p hp
 have e:s.w.getD j (0,[])=s.w[j]:=by simp [List.getD_eq_getElem?_getD,hj]
 have e2:wsAt ws j=p:=by unfold wsAt;rw [List.getD_eq_getElem?_getD,hp];rfl
 have k1:w.cell? ⟨b,o+j*2,none⟩=some (.int .i64 (p.1:Int)):=by rw [←q1,Nat.mul_comm];exact hc 0 (by decide)
 rw [e,e2]
 exact ⟨⟨b,o,ea,block_lt_of_cell k1,k1,by rw [←q2,Nat.mul_comm,Nat.add_assoc];exact hc 1 (by decide)⟩,hp1,hp2⟩
def lastOf (l:List (Nat × Lb8)) (c:Nat):Nat × Lb8:=l.getD (l.length - 1 - c) (0,[])
theorem readTo_none (n:Nat) (d:Lb8) (l:List (Nat × Lb8)) (h:∀ c,c < l.length→(lastOf l c).1≠n):∀ k,k≤l.length→readTo n d l k=d
 | 0,_=>rfl
 | k+1,hk=>by
  have h1:=h (l.length - 1 - k) (by omega)
  unfold lastOf at h1
  rw [show l.length - 1 - (l.length - 1 - k)=k by omega] at h1
  rw [readTo,if_neg h1,readTo_none n d l h k (by omega)]
theorem readTo_some (n:Nat) (d:Lb8) (l:List (Nat × Lb8)) (c:Nat) (hc:c < l.length) (he:(lastOf l c).1=n) (h:∀ c',c' < c→(lastOf l c').1≠n):∀ j,j≤c→readTo n d l (l.length - j)=readTo n d l l.length∨False→readTo n d l l.length=(lastOf l c).2:=by
 have h2:∀ j,j≤c→readTo n d l l.length=readTo n d l (l.length - j):=by
  intro j
  induction j with
  | zero=>intro _;rfl
  | succ j ih=>
   intro hj
   rw [ih (by omega)]
   have h3:=h j (by omega)
   unfold lastOf at h3
   rw [show l.length - j=(l.length - 1 - j)+1 by omega,readTo,if_neg h3,show l.length - 1 - j=l.length - (j+1) by omega]
 intro j _ _
 rw [h2 c (Nat.le_refl _),show l.length - c=(l.length - 1 - c)+1 by omega,readTo]
 unfold lastOf at he ⊢
 rw [if_pos he]
theorem readTo_last (n:Nat) (d:Lb8) (l:List (Nat × Lb8)) (c:Nat) (hc:c < l.length) (he:(lastOf l c).1=n) (h:∀ c',c' < c→(lastOf l c').1≠n):readTo n d l l.length=(lastOf l c).2:=
 readTo_some n d l c hc he h 0 (Nat.zero_le _) (.inl rfl)
structure RdI6 (w:World) (n:Nat) (l:List (Nat × Lb8)) (c:Nat) (W:World):Prop where
 an:At W w.heap.size #[.int .i64 (n:Int)] 3
 av:At W (w.heap.size+1) #[.slice none 0 0] 40
 ae:At W (w.heap.size+1+1) #[.int .i64 0] 41
 b:Below w.heap.size w W
 no:∀ c',c' < c→(lastOf l c').1≠n
structure RdX6 (w:World) (d n:Nat) (l:List (Nat × Lb8)) (c:Nat) (W:World):Prop where
 v:∃ v,At W (w.heap.size+1) #[v] 40∧SlB (fun k=>w.heap.size≤k∧k≠d∧k≠d+1) W v (lastOf l c).2
 ae:At W (w.heap.size+1+1) #[.int .i64 0] 41
 b:Below w.heap.size w W
 yes:(lastOf l c).1=n
 no:∀ c',c' < c→(lastOf l c').1≠n
theorem at_two {d b:Nat} {X Y:World} {C:Array Value} {t:TypeId} (h:At X b C t) (k:Two d X Y) (h1:b≠d) (h2:b≠d+1):At Y b C t:=by
 have hl:=h.lt
 unfold At at *
 rw [k.same b hl h1 h2];exact h
theorem RdI6.two {w:World} {n c d:Nat} {l:List (Nat × Lb8)} {X Y:World} (h:RdI6 w n l c X) (k:Two d X Y) (hd:w.heap.size+3≤d):RdI6 w n l c Y:=
 ⟨at_two h.an k (by omega) (by omega),at_two h.av k (by omega) (by omega),at_two h.ae k (by omega) (by omega),h.b.trans (k.below (by omega) h.b.size),h.no⟩
theorem RdX6.two {w:World} {n c d:Nat} {l:List (Nat × Lb8)} {X Y:World} (h:RdX6 w d n l c X) (k:Two d X Y) (hd:w.heap.size+3≤d):RdX6 w d n l c Y:=by
 obtain ⟨v,h1,h2⟩:=h.v
 exact ⟨⟨v,at_two h1 k (by omega) (by omega),h2.keep k.size fun j hj hlt=>k.same j hlt hj.2.1 hj.2.2⟩,at_two h.ae k (by omega) (by omega),h.b.trans (k.below (by omega) h.b.size),h.yes,h.no⟩
theorem blkOf_length {b:Lb8} {n q:Nat} (hb:b.length=n*256) (hq:q < n):(blkOf b q).length=256:=by
 unfold blkOf
 rw [List.length_take,List.length_drop]
 omega
theorem sl_blk {w:World} {bb n q:Nat} {b:Lb8} (h:At w bb (u8s b).toArray 5) (hb:b.length=n*256) (hq:q < n):Sl w (.slice (some ⟨bb,q*256,none⟩) 256 (n*256 - q*256)) (blkOf b q):=by
 have hl:=blkOf_length hb hq
 refine ⟨_,_,by rw [hl],by omega,fun _=>⟨bb,q*256,rfl,h.lt,fun i hi=>?_⟩⟩
 rw [hl] at hi
 rw [h.cell,List.getElem?_toArray,u8s_get b _ (by omega)]
 unfold blkOf
 simp [List.getD_eq_getElem?_getD,hi]
theorem pread_any {F:Foot} {br:Nat} {s:St6} (n:Nat) (w:World) (hr:PSt F br w s) (hok:Ok6 1000 s) (hn:n < s.n) :
 Calls Tryz.prog 9 #[rq br,.int .i64 (n:Int)] w fun e w'=>∃ v,e=.returned (.tuple #[v,.int .i64 0])∧SlB (fun k=>w.heap.size≤k) w' v (stRead s n)∧Below w.heap.size w w':=by
 obtain ⟨D,bb,vw,vs,vt,hv⟩:=hr
 obtain ⟨aw,capw,rfl⟩:=hv.w_hd
 have hb3:Below w.heap.size w (((w.alloc (.cells #[.int .i64 (n:Int)] 3)).alloc (.cells #[.slice none 0 0] 40)).alloc (.cells #[.int .i64 0] 41)):=(((Below.refl _ w).alloc (Nat.le_refl _) _).alloc (by simp) _).alloc (by simp;omega) _
 have hi0:RdI6 w n s.w 0 (((w.alloc (.cells #[.int .i64 (n:Int)] 3)).alloc (.cells #[.slice none 0 0] 40)).alloc (.cells #[.int .i64 0] 41)):=by
  refine ⟨((at_new w _ _).alloc _).alloc _,?_,?_,hb3,fun _ h=>absurd h (by omega)⟩
  ·have h:=(at_new (w.alloc (.cells #[.int .i64 (n:Int)] 3)) #[.slice none 0 0] 40).alloc (.cells #[.int .i64 0] 41)
   simpa using h
  ·have h:=at_new ((w.alloc (.cells #[.int .i64 (n:Int)] 3)).alloc (.cells #[.slice none 0 0] 40)) #[.int .i64 0] 41
   simpa using h
 have hv3:=hv.below hb3
 have hck:=pcheck_good br bb s.n n (.slice aw s.w.length capw) vs vt _ hv3.row hok.n2 hn
 have hsz:(((w.alloc (.cells #[.int .i64 (n:Int)] 3)).alloc (.cells #[.slice none 0 0] 40)).alloc (.cells #[.int .i64 0] 41)).heap.size=w.heap.size+3:=by simp
 have CK:=zh hck;have I0:=zh hi0;have B3:=zh hb3;have V3:=zh hv3;have HV:=zh hv;have SZ:=zh hsz
 clear hck hi0 hb3 hv3 hsz
 refine (callsIn_wide (n:=6)).1 ?_
 refine callsIn_of_wp_marks Tryz.func9 rfl trivial ?_ rfl
 simp only [Tryz.ntmps9,List.size_toArray,List.length_cons,List.length_nil,Nat.reduceAdd,Nat.reduceSub,Array.replicate_succ,Array.replicate_zero,List.push_toArray,List.append_toArray,List.nil_append,List.cons_append]
 gi_wp2
 refine ⟨trivial,(callsIn_wide.2 CK.out).mono ?_⟩
 rintro e w' ⟨rfl,rfl⟩
 obtain ⟨w3,hw3⟩:∃ w3,w3=((w.alloc (.cells #[.int .i64 (n:Int)] 3)).alloc (.cells #[.slice none 0 0] 40)).alloc (.cells #[.int .i64 0] 41):=⟨_,rfl⟩
 rw [←hw3] at I0 B3 V3 SZ ⊢
 clear hw3 CK
 gi_wp2
 obtain ⟨M,hM⟩:∃ M,M=s.w.length:=⟨_,rfl⟩
 obtain ⟨ws,hws⟩:=pw_ws HV.out.m
 have hM1:M≤1000:=by rw [hM];exact hok.w
 have hbr:=HV.out.blt
 have hc1:w3.cell? ⟨br,1,none⟩=some (.slice aw M capw):=by rw [V3.out.row.cell,hM];rfl
 rw [←hM] at hws
 have hwsx:∀ j,j < M→∃ b o,aw=some ⟨b,o,none⟩∧b < w.heap.size∧w3.cell? ⟨b,o+j*2,none⟩=some (.int .i64 ((wsAt ws j).1:Int))∧w3.cell? ⟨b,o+j*2+1,none⟩=some (wsAt ws j).2:=fun j hj=>by
  obtain ⟨⟨b,o,e,hb,h1,h2⟩,_⟩:=hws j hj
  exact ⟨b,o,e,hb,by rw [B3.out.cell (p:=⟨b,o+j*2,none⟩) hb];exact h1,by rw [B3.out.cell (p:=⟨b,o+j*2+1,none⟩) hb];exact h2⟩
 have sz:=SZ.out
 have hlast:∀ c,c < M→(wsAt ws (M - 1 - c)).1=(lastOf s.w c).1∧SlB D w (wsAt ws (M - 1 - c)).2 (lastOf s.w c).2∧(lastOf s.w c).2.length=256:=fun c hc=>by
  obtain ⟨_,h1,h2⟩:=hws (M - 1 - c) (by omega)
  have h3:=(hok.wf (M - 1 - c) (by omega)).2
  unfold lastOf
  rw [←hM]
  exact ⟨h1,h2,h3⟩
 have HL:=zh hlast
 have HM:=zh hM
 have hg:=pfrom_any 5 (by omega) (br:=br) (M:=M) (capw:=capw) (n0:=w.heap.size) (aw:=aw) (ws:=ws) (w0:=w3) hM1 hbr hc1 hwsx
 clear hws hwsx hlast hM hc1
 refine wpIn_range_bound rfl (by omega) (gf:=28) (bd:=#[rq br]) rfl trivial (enters_of Tryz.func28 (by kernel_rfl) rfl) hg (Below.refl _ _) (by omega) (fun _=>rfl)
  (RdI6 w n s.w) (RdX6 w w3.heap.size n s.w)
  (fun c a' W=>∃ Bx,w3.heap.size+2≤Bx∧At W Bx (wRow (wsAt ws (M - 1 - c)).1 (wsAt ws (M - 1 - c)).2) 79∧a'={ tmps:=#[rq br,.int .i64 n,undef,.pointer (some ⟨w.heap.size,0,none⟩),.pointer (some ⟨w.heap.size+1,0,none⟩),.pointer (some ⟨w.heap.size+1+1,0,none⟩),.int .i64 0,.pointer (some ⟨Bx,0,none⟩),rq br,.int .i64 n,.int .i64 0,.int .i64 0,.bool false,undef,rq br,.func (.func 28) #[rq br] #[],.agg (wRow (wsAt ws (M - 1 - c)).1 (wsAt ws (M - 1 - c)).2),undef,undef,undef,undef,undef,undef,undef,undef,undef,undef,undef],defers:=[] })
  (fun c X Y h k=>h.two k (by omega)) (fun c X Y h k=>h.two k (by omega))
  (fun c a' X Y h k=>by obtain ⟨Bx,h1,h2,h3⟩:=h;exact ⟨Bx,h1,at_two h2 k (by omega) (by omega),h3⟩) I0.out ?assign ?body ?done ?stop
 case assign=>
  intro l c W K hc hsz hi hK
  have h2:=(HL.out c hc).2.1
  clear sz
  have hK2:=zh hK
  have HI:=zh hi
  clear hK hi hg
  unfold wArg
  generalize wsAt ws (M - 1 - c)=p at *
  obtain ⟨q,vh⟩:=p
  obtain ⟨ax,cx,rfl⟩:=h2.hd
  have h2:=zh h2
  unfold wRow at *
  gi_wp2
  refine hK2.out _ _ ⟨(Below.refl _ W).alloc HI.out.b.size _,fun k _ h=>by first | exact heap_alloc_old _ _ h | exact heap_alloc_old _ _ _ h⟩ ⟨HI.out.an.alloc _,HI.out.av.alloc _,HI.out.ae.alloc _,HI.out.b.alloc HI.out.b.size _,HI.out.no⟩ ⟨W.heap.size,hsz,at_new W _ _,rfl⟩
 case body=>
  rintro l c a' W hc hsz hi ⟨Bx,hBx,hX,rfl⟩
  clear sz
  obtain ⟨h1,h2,h3⟩:=HL.out c hc
  have hp:=h2.keep (w':=W) hi.b.size fun k hk hlt=>hi.b.block k hlt
  have HI:=zh hi
  have hcn:W.cell? ⟨w.heap.size,0,none⟩=some (.int .i64 (n:Int)):=by rw [hi.an.cell];rfl
  clear hg h2 hi
  generalize wsAt ws (M - 1 - c)=p at *
  obtain ⟨q,vh⟩:=p
  obtain ⟨ax,cx,rfl⟩:=hp.hd
  have hx0:W.cell? ⟨Bx,0,none⟩=some (.int .i64 (q:Int)):=by rw [hX.cell];rfl
  have hx1:W.cell? ⟨Bx,1,none⟩=some (.slice ax (lastOf s.w c).2.length cx):=by rw [hX.cell];rfl
  have hcl:=pclone_any (lastOf s.w c).2 _ W (by omega) hp.sl
  have CL:=zh hcl
  clear hp hX hcl
  dsimp only at h1
  have H1:=zh h1;have H3:=zh h3
  clear h1 h3
  by_cases hqn:q=n
  ·subst hqn
   gi_wp2
   refine ⟨trivial,(CallsIn.inRound l (callsIn_wide.2 CL.out)).mono ?_⟩
   rintro e w4 ⟨v4,rfl,ho4,hb4⟩
   obtain ⟨a4,c4,rfl⟩:=own_hd ho4 rfl
   have av4:=HI.out.av.below hb4 HI.out.av.lt
   have ae4:=HI.out.ae.below hb4 HI.out.ae.lt
   have hv4:w4.cell? ⟨w.heap.size+1,0,none⟩=some (.slice none 0 0):=by rw [av4.cell];rfl
   have he4:w4.cell? ⟨w.heap.size+1+1,0,none⟩=some (.int .i64 0):=by rw [ae4.cell];rfl
   have fv4:=av4.free 0
   have fe4:=ae4.free 0
   have O4:=zh ho4;have B4:=zh hb4;have AV:=zh av4;have AE:=zh ae4
   clear ho4 hb4 av4 ae4 hx0 hx1 hcn CL
   gi_wp2
   have s4:=O4.out.slB
   have sz:=SZ.out
   have hso:∀ k,k≠w.heap.size+1→k≠w.heap.size+1+1→((w4.setCell ⟨w.heap.size+1,0,none⟩ (.slice a4 (lastOf s.w c).2.length c4)).setCell ⟨w.heap.size+1+1,0,none⟩ (.int .i64 0)).heap[k]?=w4.heap[k]?:=fun k h1 h2=>
    (heap_setCell_other _ ⟨w.heap.size+1+1,0,none⟩ k _ h2).trans (heap_setCell_other _ ⟨w.heap.size+1,0,none⟩ k _ h1)
   have hss:((w4.setCell ⟨w.heap.size+1,0,none⟩ (.slice a4 (lastOf s.w c).2.length c4)).setCell ⟨w.heap.size+1+1,0,none⟩ (.int .i64 0)).heap.size=w4.heap.size:=by simp
   have hlow:Below w.heap.size W ((w4.setCell ⟨w.heap.size+1,0,none⟩ (.slice a4 (lastOf s.w c).2.length c4)).setCell ⟨w.heap.size+1+1,0,none⟩ (.int .i64 0)):=
    ((B4.out.mono HI.out.b.size).setCell (p:=⟨w.heap.size+1,0,none⟩) (by simp) _).setCell (p:=⟨w.heap.size+1+1,0,none⟩) (by simp;omega) _
   refine ⟨⟨hlow,fun k h1 h2=>(hso k (by omega) (by omega)).trans (B4.out.block k h2)⟩,⟨.slice a4 (lastOf s.w c).2.length c4,?_,?_⟩,?_,HI.out.b.trans hlow,H1.out.symm,HI.out.no⟩
   ·exact (AV.out.set 0 _).set_other _ _ (by simp)
   ·exact (s4.keep (by rw [hss];exact Nat.le_refl _) fun k hk hlt=>hso k (by have:=hsz;omega) (by have:=hsz;omega)).mono fun k hk _=>⟨by omega,by omega,by omega⟩
   ·exact (AE.out.set_other _ _ (by simp)).set 0 _
  ·have hqi:¬ (q:Int)=(n:Int):=by omega
   have HQ:=zh hqn
   clear hqn
   gi_wp2
   exact ⟨⟨Below.refl _ _,fun _ _ _=>rfl⟩,HI.out.an,HI.out.av,HI.out.ae,HI.out.b,fun c' hc'=>by
    by_cases h:c' < c
    ·exact HI.out.no c' h
    ·rw [show c'=c by omega,←H1.out];exact HQ.out⟩
 case done=>
  rintro W hi hk
  have hvw:=HV.out.below hi.b
  have hbk:=pblk_any br bb s.n n _ vs vt W hvw.row hok.n2 hn
  have hcl:=pclone_any (blkOf s.b n) (.slice (some ⟨bb,n*256,none⟩) 256 (s.n*256 - n*256)) W (by rw [blkOf_length hok.b hn];omega) (sl_blk hvw.m.by8 hok.b hn)
  have hcn:W.cell? ⟨w.heap.size,0,none⟩=some (.int .i64 (n:Int)):=by rw [hi.an.cell];rfl
  have hln:=blkOf_length hok.b hn
  have BK:=zh hbk;have CL:=zh hcl;have HI:=zh hi;have HK:=zh hk;have LN:=zh hln
  clear hvw hbk hcl hi hk hg sz hln
  gi_wp2
  refine ⟨trivial,(callsIn_wide.2 BK.out).mono ?_⟩
  rintro e w' ⟨rfl,rfl⟩
  gi_wp2
  refine ⟨trivial,(callsIn_wide.2 CL.out).mono ?_⟩
  rintro e w4 ⟨v4,rfl,ho4,hb4⟩
  obtain ⟨a4,c4,rfl⟩:=own_hd ho4 LN.out.symm
  have av4:=HI.out.av.below hb4 HI.out.av.lt
  have ae4:=HI.out.ae.below hb4 HI.out.ae.lt
  have hv4:w4.cell? ⟨w.heap.size+1,0,none⟩=some (.slice none 0 0):=by rw [av4.cell];rfl
  have he4:w4.cell? ⟨w.heap.size+1+1,0,none⟩=some (.int .i64 0):=by rw [ae4.cell];rfl
  have fv4:=av4.free 0
  have fe4:=ae4.free 0
  have O4:=zh ho4;have B4:=zh hb4;have AV:=zh av4;have AE:=zh ae4
  clear ho4 hb4 av4 ae4 hcn CL BK
  gi_wp2
  have s4:=O4.out.slB
  have sz:=SZ.out
  have hso:∀ k,k≠w.heap.size+1→k≠w.heap.size+1+1→((w4.setCell ⟨w.heap.size+1,0,none⟩ (.slice a4 256 c4)).setCell ⟨w.heap.size+1+1,0,none⟩ (.int .i64 0)).heap[k]?=w4.heap[k]?:=fun k h1 h2=>
   (heap_setCell_other _ ⟨w.heap.size+1+1,0,none⟩ k _ h2).trans (heap_setCell_other _ ⟨w.heap.size+1,0,none⟩ k _ h1)
  have hss:((w4.setCell ⟨w.heap.size+1,0,none⟩ (.slice a4 256 c4)).setCell ⟨w.heap.size+1+1,0,none⟩ (.int .i64 0)).heap.size=w4.heap.size:=by simp
  have hlow:Below w.heap.size w ((w4.setCell ⟨w.heap.size+1,0,none⟩ (.slice a4 256 c4)).setCell ⟨w.heap.size+1+1,0,none⟩ (.int .i64 0)):=
   ((HI.out.b.trans (B4.out.mono HI.out.b.size)).setCell (p:=⟨w.heap.size+1,0,none⟩) (by simp) _).setCell (p:=⟨w.heap.size+1+1,0,none⟩) (by simp;omega) _
  have hKs:=(Array.getElem?_eq_some_iff.1 HK.out).1
  have hK4:((w4.setCell ⟨w.heap.size+1,0,none⟩ (.slice a4 256 c4)).setCell ⟨w.heap.size+1+1,0,none⟩ (.int .i64 0)).heap[w3.heap.size]?=some (.deferred (some [])):=
   (hso _ (by omega) (by omega)).trans ((B4.out.block _ hKs).trans HK.out)
  have av5:At ((w4.setCell ⟨w.heap.size+1,0,none⟩ (.slice a4 256 c4)).setCell ⟨w.heap.size+1+1,0,none⟩ (.int .i64 0)) (w.heap.size+1) #[.slice a4 256 c4] 40:=(AV.out.set 0 _).set_other _ _ (by simp)
  have ae5:At ((w4.setCell ⟨w.heap.size+1,0,none⟩ (.slice a4 256 c4)).setCell ⟨w.heap.size+1+1,0,none⟩ (.int .i64 0)) (w.heap.size+1+1) #[.int .i64 0] 41:=(AE.out.set_other _ _ (by simp)).set 0 _
  have t6:=Two.put (o':=.deferred none) (.inl rfl) hK4
  refine ⟨by simp,.inl ⟨_,_,rfl,run_takeDeferred hK4,?_⟩⟩
  have c6:(((w4.setCell ⟨w.heap.size+1,0,none⟩ (.slice a4 256 c4)).setCell ⟨w.heap.size+1+1,0,none⟩ (.int .i64 0)).putObj w3.heap.size (.deferred none)).cell? ⟨w.heap.size+1,0,none⟩=some (.slice a4 256 c4):=by rw [(at_two av5 t6 (by omega) (by omega)).cell];rfl
  have c7:(((w4.setCell ⟨w.heap.size+1,0,none⟩ (.slice a4 256 c4)).setCell ⟨w.heap.size+1+1,0,none⟩ (.int .i64 0)).putObj w3.heap.size (.deferred none)).cell? ⟨w.heap.size+1+1,0,none⟩=some (.int .i64 0):=by rw [(at_two ae5 t6 (by omega) (by omega)).cell];rfl
  have hrd:stRead s n=blkOf s.b n:=by
   unfold stRead
   exact readTo_none n _ s.w (fun c hc=>HI.out.no c (by rw [HM.out];exact hc)) _ (Nat.le_refl _)
  have s5:=(s4.keep (by rw [hss];exact Nat.le_refl _) fun k hk hlt=>hso k (by omega) (by omega))
  have s6:=(s5.keep t6.size fun k hk hlt=>World.putObj_heap_other (by omega))
  refine ⟨.tuple #[.slice a4 256 c4,.int .i64 0],?_,_,rfl,?_,hlow.trans (t6.below (by omega) hlow.size)⟩
  ·simp [results,Tryz.f9,go_sem,c6,c7]
  ·rw [hrd]
   exact s6.mono fun k hk _=>by have:=HI.out.b.size;omega
 case stop=>
  rintro c W hc hx hk
  have HX:=zh hx;have HK:=zh hk
  clear hx hk hg sz
  gi_wp2
  have sz:=SZ.out
  have t6:=Two.put (o':=.deferred none) (.inl rfl) HK.out
  have x6:=HX.out.two t6 (by omega)
  obtain ⟨v,av6,s6⟩:=x6.v
  refine ⟨by simp,.inl ⟨_,_,rfl,run_takeDeferred HK.out,?_⟩⟩
  have c6:(W.putObj w3.heap.size (.deferred none)).cell? ⟨w.heap.size+1,0,none⟩=some v:=by rw [av6.cell];rfl
  have c7:(W.putObj w3.heap.size (.deferred none)).cell? ⟨w.heap.size+1+1,0,none⟩=some (.int .i64 0):=by rw [x6.ae.cell];rfl
  have hrd:stRead s n=(lastOf s.w c).2:=by
   unfold stRead
   exact readTo_last n _ s.w c (by rw [←HM.out];exact hc) x6.yes x6.no
  refine ⟨.tuple #[v,.int .i64 0],?_,_,rfl,?_,x6.b⟩
  ·simp [results,Tryz.f9,go_sem,c6,c7]
  ·rw [hrd]
   exact s6.mono fun k hk _=>hk.1
theorem pread_bad {F:Foot} {br:Nat} {s:St6} (n:Int) (w:World) (hr:PSt F br w s) (hok:Ok6 1000 s) (hbad:n < 0∨(s.n:Int)≤n) :
 Calls Tryz.prog 9 #[rq br,.int .i64 n] w fun e w'=>∃ v,e=.returned (.tuple #[v,.int .i64 1])∧Sl w' v []∧Below w.heap.size w w':=by
 obtain ⟨D,bb,vw,vs,vt,hv⟩:=hr
 have hb3:Below w.heap.size w (((w.alloc (.cells #[.int .i64 n] 3)).alloc (.cells #[.slice none 0 0] 40)).alloc (.cells #[.int .i64 0] 41)):=(((Below.refl _ w).alloc (Nat.le_refl _) _).alloc (by simp) _).alloc (by simp;omega) _
 have hck:=pcheck_bad br bb s.n n vw vs vt _ (hv.below hb3).row hok.n2 hok.n1 hbad
 have CK:=zh hck;have B3:=zh hb3
 clear hck hb3 hok hv hbad
 refine (callsIn_wide (n:=6)).1 ?_
 refine callsIn_of_wp_marks Tryz.func9 rfl trivial ?_ rfl
 simp only [Tryz.ntmps9,List.size_toArray,List.length_cons,List.length_nil,Nat.reduceAdd,Nat.reduceSub,Array.replicate_succ,Array.replicate_zero,List.push_toArray,List.append_toArray,List.nil_append,List.cons_append]
 gi_wp2
 refine ⟨trivial,(callsIn_wide.2 CK.out).mono ?_⟩
 rintro e w' ⟨rfl,rfl⟩
 gi_wp2
 have av:=(at_new (w.alloc (.cells #[.int .i64 n] 3)) #[.slice none 0 0] 40).alloc (.cells #[.int .i64 1] 41)
 have ae:=at_new ((w.alloc (.cells #[.int .i64 n] 3)).alloc (.cells #[.slice none 0 0] 40)) #[.int .i64 1] 41
 simp only [World.size_alloc] at av ae
 have c6:(((w.alloc (.cells #[.int .i64 n] 3)).alloc (.cells #[.slice none 0 0] 40)).alloc (.cells #[.int .i64 1] 41)).cell? ⟨w.heap.size+1,0,none⟩=some (.slice none 0 0):=by rw [av.cell];rfl
 have c7:(((w.alloc (.cells #[.int .i64 n] 3)).alloc (.cells #[.slice none 0 0] 40)).alloc (.cells #[.int .i64 1] 41)).cell? ⟨w.heap.size+1+1,0,none⟩=some (.int .i64 1):=by rw [ae.cell];rfl
 have hb:Below w.heap.size w (((w.alloc (.cells #[.int .i64 n] 3)).alloc (.cells #[.slice none 0 0] 40)).alloc (.cells #[.int .i64 1] 41)):=(((Below.refl _ w).alloc (Nat.le_refl _) _).alloc (by simp) _).alloc (by simp;omega) _
 refine ⟨.tuple #[.slice none 0 0,.int .i64 1],?_,_,rfl,sl_none _,hb⟩
 simp [results,Tryz.f9,go_sem,c6,c7]
end Sha
end Go.Proofs.YtddjdaocdfkgeaaGreatDoor
