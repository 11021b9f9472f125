/- My own texts, merged. -/
import Derived.Test.YtddjdaocdfkgeaaGreatDoorBQ39
import Derived.Test.YtddjdaocdfkgeaaGreatDoorBQ41
import Derived.Test.YtddjdaocdfkgeaaGreatDoorBQ42
import Derived.Test.YtddjdaocdfkgeaaGreatDoorBQ01
import Derived.Test.YtddjdaocdfkgeaaGreatDoorBQ40
import Derived.Test.YtddjdaocdfkgeaaGreatDoorBQ33
import Derived.Test.YtddjdaocdfkgeaaGreatDoorBQ36
import Derived.Test.YtddjdaocdfkgeaaGreatDoorBQ04
set_option maxRecDepth 100000
set_option maxHeartbeats 8000000
namespace Go.Proofs.YtddjdaocdfkgeaaGreatDoor
namespace Sha
open Go.RowKit Mem
set_option maxRecDepth 100000
theorem pages_good14 {l:List (Lb8)} (h0:l.length≠0) (h1:l.length≤216):GoodP (l.map pageL):=by
 refine ⟨by rw [List.length_map];omega,by rw [List.length_map];exact h1,fun x hx=>?_⟩
 obtain ⟨y,_,rfl⟩:=List.mem_map.1 hx
 exact pageL_length y
theorem neqRR14 {a b:RefV} (ha:a.Wf) (hb:b.Wf) (x y:Operand) (w:World):(do eqGuard .neq 57 x y (.agg (refC a)) (.agg (refC b));binOp .neq 57 (.agg (refC a)) (.agg (refC b)):Sem Value).run Tryz.prog w=.ok (.bool (!sameRef a b)) w:=
 (eqlRf _ (by kernel_rfl) (by kernel_rfl) (by kernel_rfl) (by kernel_rfl) ha hb x y w).2
def sameRf14 (L K:List RefV):Bool:=decide (L.length=K.length∧∀ i,i < L.length→sameRef (L.getD i zref) (K.getD i zref)=true)
theorem sameRf14_iff (L K:List RefV):sameRf14 L K=true ↔ L=K:=by
 unfold sameRf14
 rw [decide_eq_true_iff]
 constructor
 ·rintro ⟨h,h2⟩
  apply List.ext_getElem h
  intro i h1 h3
  have:=(sameRef_iff _ _).1 (h2 i h1)
  simpa [List.getD_eq_getElem?_getD,h1,h3] using this
 ·rintro rfl
  exact ⟨rfl,fun i _=>sameRef_self _⟩
theorem sameRf14_self (L:List RefV):sameRf14 L L=true:=(sameRf14_iff L L).2 rfl
theorem same14_any (L K:List RefV) (va vb:Value) (w:World) (ha:SlRf w va L) (hb:SlRf w vb K) (hL:∀ r∈L,r.Wf) (hK:∀ r∈K,r.Wf) (hl:L.length≤1000) (_hk:K.length≤1000):Calls Tryz.prog 17 #[va,vb] w (fun e w'=>e=.returned (.bool (sameRf14 L K))∧Below w.heap.size w w'):=by
 obtain ⟨aa,ca,rfl⟩:=ha.hd
 obtain ⟨ab,cb,rfl⟩:=hb.hd
 by_cases hlen:L.length=K.length
 ·have hno:∀ i,i < L.length→sameRef (L.getD i zref) (K.getD i zref)=false→sameRf14 L K=false:=fun i hi h=>by
   unfold sameRf14
   refine decide_eq_false (fun hc=>?_)
   rw [hc.2 i hi] at h
   cases h
  have hyes:(∀ i,i < L.length→sameRef (L.getD i zref) (K.getD i zref)=true)→sameRf14 L K=true:=fun h=>by
   unfold sameRf14
   exact decide_eq_true ⟨hlen,h⟩
  have hne:=fun i=>neqRR14 (getD_wf hL i) (getD_wf hK i)
  have hsa:=fun i=>refC_size (getD_wf hL i)
  have hsb:=fun i=>refC_size (getD_wf hK i)
  rw [←hlen] at hb ⊢
  obtain ⟨Y,hY⟩:∃ Y,Y=sameRf14 L K:=⟨_,rfl⟩
  rw [←hY] at hno hyes ⊢
  obtain ⟨n,hn⟩:∃ n,n=L.length:=⟨_,rfl⟩
  have hnk:n=K.length:=by omega
  rw [←hn] at ha hb hno hyes hl ⊢
  have HA:=zh ha;have HB:=zh hb;have NO:=zh hno;have YES:=zh hyes;have NE:=zh hne;have SA:=zh hsa;have SB:=zh hsb;have HN:=zh hn;have HNK:=zh hnk
  clear ha hb hno hyes hne hsa hsb hn hnk hY hlen _hk
  go_enter Tryz.func17,Tryz.ntmps17
  go_wp2_with fail
  go_loopw [13] (fun vi wr=>∃ i:Nat,i≤n∧vi=.int .i64 (i:Int)∧(∀ k,k < i→sameRef (L.getD k zref) (K.getD k zref)=true)∧Below w.heap.size w wr) (fun vi _=>n - (intOf vi).toNat)
  case atStart=>exact ⟨0,by omega,rfl,fun k _hk=>by omega,Below.refl _ _⟩
  case round=>
   obtain ⟨i,hi,rfl,hal,hbw⟩:=hrel
   have BW:=zh hbw;have AL:=zh hal;have VA:=zh (HA.out.below hbw);have VB:=zh (HB.out.below hbw)
   clear hbw hal
   by_cases hlt:i < n
   ·have hlt2:(i:Int) < (n:Int):=by omega
    obtain ⟨b1,o1,e1,l1,r1⟩:=slrf_at (i:=i) VA.out HN.out hlt
    obtain ⟨b2,o2,e2,l2,r2⟩:=slrf_at (i:=i) VB.out HNK.out hlt
    subst e1 e2
    have hne:=NE.out i;have hsa:=SA.out i;have hsb:=SB.out i;have hno:=NO.out i hlt
    have hal2:sameRef (L.getD i zref) (K.getD i zref)=true→∀ k,k < i+1→sameRef (L.getD k zref) (K.getD k zref)=true:=fun h k _hk=>by
     rcases Nat.lt_or_ge k i with x | x
     ·exact AL.out k x
     ·rw [show k=i by omega];exact h
    obtain ⟨x,hx⟩:∃ x,x=L.getD i zref:=⟨_,rfl⟩
    obtain ⟨y,hy⟩:∃ y,y=K.getD i zref:=⟨_,rfl⟩
    rw [←hx,←hy] at hne hno
    rw [←hx] at hsa r1
    rw [←hy] at hsb r2
    rw [←hx,←hy] at hal2
    have R1:=zh r1;have R2:=zh r2;have L1:=zh l1;have L2:=zh l2;have SX:=zh hsa;have SY:=zh hsb;have AL2:=zh hal2;have NX:=zh hno
    obtain ⟨q,hq⟩:∃ q,q=sameRef x y:=⟨_,rfl⟩
    rw [←hq] at hne
    have NEQ:=zh hne;have HQ:=zh hq
    clear r1 r2 l1 l2 hsa hsb hne hno hal2 hx hy hq
    go_upto_region 6 with fail
    have D0:Hid (Below wr.heap.size wr wr.drew):=zh (Below.refl _ _).drew
    refine wp_region_plan_in (fun x'=>Below wr.heap.size wr x') (.take 0 (.take 1 (.take 2 (.take 3 (.take 4 (.take 5 (.take 6 (.take 7 (.take 8 .done))))))))) (by kernel_rfl) (by kernel_rfl) (by kernel_rfl) D0.out ?_
    iterate 2 ((first | refine Mem.pm1 ?_ | refine Mem.pm2 ?_ | refine Mem.pt ?_ | refine Mem.pf ?_);(simp only [Mem.zp,Mem.pb,Mem.pc]))
    refine plan_index_z 51 32 _ _ b1 o1 n ca 34 i zr zr zr ze ze (by omega) Tryz.underlying51 (by kernel_rfl) ?_
    (simp only [Mem.zp,Mem.pb,Mem.pc])
    refine plan_load_range 32 _ b1 (o1+i*34) _ (refC x) zr zr zr ze (fun w' hw'=>range_block R1.out (hw'.block b1 L1.out)) Tryz.underlying32 zr (by rw [SX.out];exact infoRfP) ?_
    (simp only [Mem.zp,Mem.pb,Mem.pc])
    iterate 2 ((first | refine Mem.pm1 ?_ | refine Mem.pm2 ?_ | refine Mem.pt ?_ | refine Mem.pf ?_);(simp only [Mem.zp,Mem.pb,Mem.pc]))
    refine plan_index_z 54 57 _ _ b2 o2 n cb 34 i zr zr zr ze ze (by omega) Tryz.underlying54 (by kernel_rfl) ?_
    (simp only [Mem.zp,Mem.pb,Mem.pc])
    refine plan_load_range 57 _ b2 (o2+i*34) _ (refC y) zr zr zr ze (fun w' hw'=>range_block R2.out (hw'.block b2 L2.out)) Tryz.underlying57 zr (by rw [SY.out];exact infoRfR) ?_
    (simp only [Mem.zp,Mem.pb,Mem.pc])
    refine plan_bin _ _ _ _ _ _ _ (.bool (!q)) zr zr zr ze ze (fun wx=>NEQ.out _ _ wx) ?_
    (simp only [Mem.zp,Mem.pb,Mem.pc])
    refine plan_nil ?_
    have BD:Hid (Below w.heap.size w wr.drew):=zh BW.out.drew
    cases hqq:q
    ·have hy:Y=false:=NX.out (by rw [←HQ.out];exact hqq)
     have HY:=zh hy
     clear hy hqq
     go_wp2_with fail
     go_ret
     exact ⟨by rw [HY.out];rfl,BD.out⟩
    ·have hal3:=AL2.out (by rw [←HQ.out];exact hqq)
     have AL3:=zh hal3
     clear hal3 hqq
     go_wp2_with fail
     go_roundw
     case rel=>exact ⟨i+1,by omega,by go_num,AL3.out,BD.out⟩
     case measure=>simp [intOf];omega
   ·have hin:i=n:=by omega
    subst hin
    have hy:Y=true:=YES.out AL.out
    have HY:=zh hy
    clear hy
    go_wp2_with fail
    go_ret
    exact ⟨by rw [HY.out];rfl,BW.out⟩
 ·have hy:sameRf14 L K=false:=by unfold sameRf14;exact decide_eq_false (fun h=>hlen h.1)
  rw [hy]
  obtain ⟨n,hn⟩:∃ n,n=L.length:=⟨_,rfl⟩
  obtain ⟨m,hm⟩:∃ m,m=K.length:=⟨_,rfl⟩
  rw [←hn,←hm] at hlen ⊢
  have e1:((n:Int) == (m:Int))=false:=beq_eq_false_iff_ne.mpr (by omega)
  have e2:¬ (n:Int)=(m:Int):=by omega
  clear ha hb hy hn hm hl _hk
  go_enter Tryz.func17,Tryz.ntmps17
  go_wp2_with fail
  go_ret
  exact ⟨rfl,Below.refl _ _⟩
end Sha
end Go.Proofs.YtddjdaocdfkgeaaGreatDoor
namespace Go.Proofs.YtddjdaocdfkgeaaGreatDoor
namespace Sha
open Go.RowKit Mem
set_option maxRecDepth 100000
section
variable {B key:Lb8} {p:Nat} {root:RefV}
theorem wholeT_wf (hr:root.Wf):∀ r∈(wholeT B key p root).1,r.Wf:=by
 unfold wholeT
 split
 ·intro r h;cases h
 ·exact wholeG_wf hr _
theorem wholeT_few (h0:1≤p) (h1:p≤216):(wholeT B key p root).1.length≤1000∧(wholeT B key p root).2.1.length≤1000∧∀ x∈(wholeT B key p root).2.1,x.length≤1000000:=by
 unfold wholeT
 have hb:=itn_big p h0 h1
 by_cases h:(wholeG B key p root (itn p)).2.2=0
 ·rw [if_neg (fun g=>g h)]
  have W:=whole_inv h0 h1 (itn p) (Nat.le_refl _) h
  refine ⟨by rw [W.lr];omega,by rw [W.lg];omega,fun x hx=>?_⟩
  obtain ⟨i,hi,rfl⟩:=List.getElem_of_mem hx
  have hip:i < p:=by rw [W.lg] at hi;exact hi
  have a:=(W.ok i (by omega) (by omega)).2.1 hip
  rw [List.getD_eq_getElem?_getD,List.getElem?_eq_getElem hi] at a
  have l:=fetchT_le B key p (i:Int) ((wholeG B key p root (itn p)).1.getD i zref)
  rw [←a] at l
  have l2:((wholeG B key p root (itn p)).2.1[i]).length≤1000:=l
  omega
 ·rw [if_pos h];simp
theorem wayT_wf (hr:root.Wf) (z:Int):∀ r∈(wayT B key p root z).1,r.Wf:=by
 unfold wayT
 intro r h
 split at h
 ·cases h
 ·split at h
  ·cases h
  ·split at h
   ·cases h
   ·exact wayG_wf hr _ _ r h
theorem wayT_few (z:Int):(wayT B key p root z).1.length≤1000∧(wayT B key p root z).2.1.length≤1000:=by
 have ht:=top_le p
 unfold wayT
 split
 ·simp
 ·split
  ·simp
  ·rename_i h
   split
   ·simp
   ·refine ⟨?_,fetchT_le _ _ _ _ _⟩
    show (wayG B key p root z.toNat (topn p)).1.length≤1000
    rw [wayG_length _ (Decidable.not_not.1 h)]
    omega
end
theorem stRead_len14 {m:Nat} {s:St6} (h:Ok6 m s) (hw:s.w=[]) {n:Nat} (hn:n < s.n):(stRead s n).length=256:=by
 unfold stRead
 rw [hw]
 show (blkOf s.b n).length=256
 rw [blkOf,List.length_take,List.length_drop,h.b]
 omega
theorem build_K114 (x:BitVec 8) (w:World):(Instr.build 26 #[(0,.int .u8 (x.toNat:Int))]).run Tryz.prog w=.ok (.agg (u8s (x::List.replicate 31 0)).toArray) w:=by kernel_rfl
theorem conv_k14 (n:Nat) (h:n≤20) (w:World):(convert 3 5 (.int .i64 (n:Int))).run Tryz.prog w=.ok (.int .u8 (((BitVec.ofNat 8 n).toNat:Nat):Int)) w:=by
 have h2:IntKind.u8.wrap (n:Int)=(n:Int):=by rw [IntKind.wrap_u8];omega
 have h3:(BitVec.ofNat 8 n).toNat=n:=by rw [BitVec.toNat_ofNat];omega
 rw [h3]
 go_simp
theorem zero_K014 (w:World):(zeroValue 26).run Tryz.prog w=.ok (.agg (u8s (List.replicate 32 0)).toArray) w:=by kernel_rfl
theorem al_S14 (w:World):(Instr.alloc 29 true (.tuple #[])).run Tryz.prog w=.ok (.pointer (some ⟨w.heap.size,0,none⟩)) (w.alloc (.cells (psC 0) 29)):=by kernel_rfl
theorem al_R14 (w:World):(Instr.alloc 32 true (.tuple #[])).run Tryz.prog w=.ok (.pointer (some ⟨w.heap.size,0,none⟩)) (w.alloc (.cells (refC zref) 32)):=by kernel_rfl
theorem o_xor14 (a b:BitVec 8) (t t2:TypeId) (x y:Operand) (w:World):(do eqGuard .xor t x y (.int .u8 (a.toNat:Int)) (.int .u8 (b.toNat:Int));binOp .xor t2 (.int .u8 (a.toNat:Int)) (.int .u8 (b.toNat:Int)):Sem Value).run Tryz.prog w=.ok (.int .u8 ((a ^^^ b).toNat:Int)) w:=by
 have h:=b_xor a b
 go_simp
theorem plan_index_u8 {P:Program} {ops:Array Oper} {Q:Exit→Act→World→Prop} {S:World→Prop} {w:World} {a:Act} {o:Oper} {i:Nat} {r:Plan} (t e:TypeId) (x ix:Operand) (g off n c:Nat) (k:Nat) (ho:ops.toList[i]?=some o) (hw:Region.wanted o (yielded ops a.tmps)=true) (hop:o.op=.indexAddr t x ix)
 (hx:a.eval x=.slice (some ⟨g,off,none⟩) n c) (hi:a.eval ix=.int .u8 (k:Int)) (hk:k < n) (hu:P.underlying t=some (.slice e)) (hs:(P.info? e).map (·.size)=some 1)
 (h:wpPlan P ops Q S r (a.put o.dst (.pointer (some ⟨g,off+k,none⟩))) w):wpPlan P ops Q S (.take i r) a w:=
 plan_take _ ho hw (fun w' _=>by
  cases hq:P.info? e with
  | none=>simp [hq] at hs
  | some q=>
   have hs1:q.size=1:=by simpa [hq] using hs
   simp [execOp,hop,hx,hi,Instr.indexAt,asIntOf,Sem.run_bind,run_underlying hu,sizeOf,typeInfo,hq,hs1,hk,Addr.add]) h
theorem slB_low {G:Foot} {w:World} {g o n c:Nat} {l:Lb8} (h:SlB G w (.slice (some ⟨g,o,none⟩) n c) l) (hl:l.length≠0):G g:=by
 obtain ⟨_,a,cap,e,_,hr⟩:=h
 obtain ⟨bb,oo,ea,hG,_,_⟩:=hr hl
 injection e with e1 _ _
 rw [ea] at e1
 injection e1 with e1
 injection e1 with e1 _ _
 rw [e1]
 exact hG
end Sha
end Go.Proofs.YtddjdaocdfkgeaaGreatDoor
namespace Go.Proofs.YtddjdaocdfkgeaaGreatDoor
namespace Sha
open Go.RowKit Mem
set_option maxRecDepth 100000
theorem rwhole14_any (B key:Lb8) (p:Nat) (root:RefV) (v vL vF:Value) (w:World) (lk:key.length=32) (hv:Sl w v B) (hBl:B.length≤1000000) (hR:RS w p vL vF) (h0:1≤p) (h1:p≤216) (hrw:root.Wf) :
 Calls Tryz.prog 14 #[v,.agg (u8s key).toArray,.agg (rsC p vL vF),.agg (refC root)] w (WhEnd w (wholeT B key p root)):=by
 have hit:=itn_big p h0 h1
 have kds0:=fun (i:Nat) wx (h:Below w.heap.size w wx) (hi:p≤i) (hl:i < itn p)=>by
  have g:=rkids_any p vL vF (i:Int) wx (hR.below h) h0 h1
  rw [kidsZ_node hi hl] at g
  exact g
 have ft0:=fun (i:Nat) (r:RefV) wx (h:Below w.heap.size w wx) (hr:r.Wf)=>rfetch14_own B key p (i:Int) r v vL vF wx lk (hv.below h) hBl (hR.below h) h1 hr
 have kd0:=fun (i:Nat) (pg:Lb8) vx wx (h:Below w.heap.size w wx) (hs:Sl wx vx pg) (hl:pg.length≤1000)=>rkids14_own p (i:Int) pg vx vL vF wx hs hl (hR.below h) h0 h1
 have hwf:=fun k=>wholeG_wf (B:=B) (key:=key) (p:=p) hrw k
 obtain ⟨m,hm⟩:∃ m,m=itn p:=⟨_,rfl⟩
 obtain ⟨ok,hokf⟩:∃ f:Nat→Int,f=fun n=>(wholeG B key p root (m - n)).2.2:=⟨_,rfl⟩
 obtain ⟨WR,hWR⟩:∃ f:Nat→List RefV,f=fun n=>(wholeG B key p root (m - n)).1:=⟨_,rfl⟩
 obtain ⟨WP,hWP⟩:∃ f:Nat→List (Lb8),f=fun n=>(wholeG B key p root (m - n)).2.1:=⟨_,rfl⟩
 obtain ⟨hd,hhd⟩:∃ f:Nat→RefV,f=fun n=>(WR n).getD (n - 1) zref:=⟨_,rfl⟩
 obtain ⟨ft2,hft2⟩:∃ f:Nat→Lb8 × Int,f=fun n=>fetchT B key p ((n - 1:Nat):Int) (hd n):=⟨_,rfl⟩
 obtain ⟨kd2,hkd2⟩:∃ f:Nat→List RefV × Int,f=fun n=>kidsT p ((n - 1:Nat):Int) (ft2 n).1:=⟨_,rfl⟩
 have rw0:(List.replicate m zref).set (m - 1) root=WR m:=by
  rw [hWR];show _=(wholeG B key p root (m - m)).1;rw [Nat.sub_self]
  show _=List.replicate (itn p - 1) zref++[root]
  rw [←hm,show m=(m - 1)+1 by omega,List.replicate_succ',List.set_append_right _ _ (by simp)]
  simp
 have wp0:WP m=List.replicate p []:=by rw [hWP];show (wholeG B key p root (m - m)).2.1=_;rw [Nat.sub_self];rfl
 have ok0:ok m=0:=by rw [hokf];show (wholeG B key p root (m - m)).2.2=0;rw [Nat.sub_self];rfl
 have inv:∀ n,n≤m→ok n=0→(WR n).length=m∧(WP n).length=p:=fun n hn h=>by
  rw [hokf] at h;rw [hWR,hWP]
  have g:=whole_inv (B:=B) (key:=key) (root:=root) h0 h1 (m - n) (by omega) h
  refine ⟨?_,g.lg⟩
  show (wholeG B key p root (m - n)).1.length=m
  rw [g.lr,hm]
 have rwf:∀ n,∀ r∈WR n,r.Wf:=fun n=>by rw [hWR];exact hwf _
 have hdw:∀ n,(hd n).Wf:=fun n=>by rw [hhd];exact getD_wf (rwf n) _
 have fkE:∀ n,fkT B key p ((n - 1:Nat):Int) (hd n)=if (ft2 n).2≠0 then ([],(ft2 n).2) else kd2 n:=fun n=>by rw [hkd2,hft2];rfl
 have nd1:∀ n,p < n→n≤m→ok n=0→wholeG B key p root (m - (n - 1))=if (fkT B key p ((n - 1:Nat):Int) (hd n)).2≠0 then ([],[],(fkT B key p ((n - 1:Nat):Int) (hd n)).2) else (laidR (WR n) (fst p (n - 1)) (fkT B key p ((n - 1:Nat):Int) (hd n)).1,WP n,0):=fun n hn hl h=>by
  rw [hokf] at h
  have e1:itn p - (m - n+1)=n - 1:=by omega
  have e2:m - (n - 1)=m - n+1:=by omega
  have s1:=wholeG_node (k:=m - n) h (by omega)
  rw [e1] at s1
  rw [e2,s1,hhd,hWR,hWP]
 have pd1:∀ n,0 < n→n≤p→ok n=0→wholeG B key p root (m - (n - 1))=if (ft2 n).2≠0 then ([],[],(ft2 n).2) else (WR n,(WP n).set (n - 1) (ft2 n).1,0):=fun n hn hl h=>by
  rw [hokf] at h
  have e1:itn p - (m - n+1)=n - 1:=by omega
  have e2:m - (n - 1)=m - n+1:=by omega
  have s1:=wholeG_page (k:=m - n) h (by omega)
  rw [e1] at s1
  rw [e2,s1,hft2,hhd,hWR,hWP]
 have eqs:∀ n,wholeG B key p root (m - n)=(WR n,WP n,ok n):=fun n=>by rw [hWR,hWP,hokf]
 have node:∀ n,p < n→n≤m→ok n=0→(ft2 n).2=0→(kd2 n).2=0→ok (n - 1)=0∧laidR (WR n) (fst p (n - 1)) (kd2 n).1=WR (n - 1)∧WP (n - 1)=WP n:=fun n hn hl h h2 h3=>by
  have s1:=nd1 n hn hl h
  have e9:fkT B key p ((n - 1:Nat):Int) (hd n)=kd2 n:=by rw [fkE n,if_neg (fun x=>x h2)]
  rw [e9,if_neg (fun x=>x h3),eqs (n - 1)] at s1
  injection s1 with a1 a2
  injection a2 with a2 a3
  exact ⟨a3,a1.symm,a2⟩
 have kdE:∀ n,p < n→n≤m→ok n=0→(ft2 n).2=0→(kd2 n).2≠0→wholeT B key p root=([],[],(kd2 n).2):=fun n hn hl h h2 h3=>by
  have s1:=nd1 n hn hl h
  have e9:fkT B key p ((n - 1:Nat):Int) (hd n)=kd2 n:=by rw [fkE n,if_neg (fun x=>x h2)]
  rw [e9,if_pos h3] at s1
  exact wholeT_err (k:=m - (n - 1)) (by omega) (by rw [s1]) h3
 have ftE:∀ n,0 < n→n≤m→ok n=0→(ft2 n).2≠0→wholeT B key p root=([],[],(ft2 n).2):=fun n hn hl h h2=>by
  rcases Nat.lt_or_ge p n with g | g
  ·have s1:=nd1 n g hl h
   have e9:fkT B key p ((n - 1:Nat):Int) (hd n)=([],(ft2 n).2):=by rw [fkE n,if_pos h2]
   rw [e9,if_pos h2] at s1
   exact wholeT_err (k:=m - (n - 1)) (by omega) (by rw [s1]) h2
  ·have s1:=pd1 n hn g h
   rw [if_pos h2] at s1
   exact wholeT_err (k:=m - (n - 1)) (by omega) (by rw [s1]) h2
 have page:∀ n,0 < n→n≤p→ok n=0→(ft2 n).2=0→ok (n - 1)=0∧WR (n - 1)=WR n∧(WP n).set (n - 1) (ft2 n).1=WP (n - 1):=fun n hn hl h h2=>by
  have s1:=pd1 n hn hl h
  rw [if_neg (fun x=>x h2),eqs (n - 1)] at s1
  injection s1 with a1 a2
  injection a2 with a2 a3
  exact ⟨a3,a1,a2.symm⟩
 have fin:ok 0=0→wholeT B key p root=(WR 0,WP 0,0):=fun h=>by
  rw [hokf] at h
  have h':(wholeG B key p root (itn p)).2.2=0:=by rw [←hm];exact h
  rw [wholeT_good h',hWR,hWP,←hm]
  show wholeG B key p root m=((wholeG B key p root (m - 0)).1,(wholeG B key p root (m - 0)).2.1,0)
  rw [Nat.sub_zero]
  rw [←hm] at h'
  exact Prod.ext rfl (Prod.ext rfl h')
 have kdl:∀ n,p < n→n≤m→(ft2 n).2=0→(kd2 n).2=0→(kd2 n).1.length=many p (n - 1):=fun n hn hl h2 h=>by
  have g:=fkT_len (B:=B) (key:=key) (p:=p) (i:=n - 1) (x:=hd n) (by omega) (by omega) (by rw [fkE n,if_neg (fun x=>x h2)];exact h)
  rw [fkE n,if_neg (fun x=>x h2)] at g
  exact g
 have kid:∀ n,p < n→n≤m→1≤many p (n - 1)∧fst p (n - 1)+many p (n - 1)≤n - 1∧many p (n - 1)≤6:=fun n hn hl=>⟨(node_kids p (n - 1) h0 h1 (by omega) (by omega)).1,(node_kids p (n - 1) h0 h1 (by omega) (by omega)).2,many_le _ _⟩
 have kdw:∀ n,∀ r∈(kd2 n).1,r.Wf:=fun n=>by rw [hkd2];exact kidsT_wf _ _ _
 have ftl:∀ n,(ft2 n).1.length≤1000:=fun n=>by rw [hft2];exact fetchT_le _ _ _ _ _
 obtain ⟨mn,hmn⟩:∃ f:Nat→Nat,f=fun n=>many p (n - 1):=⟨_,rfl⟩
 obtain ⟨fs,hfs⟩:∃ f:Nat→Nat,f=fun n=>fst p (n - 1):=⟨_,rfl⟩
 obtain ⟨kzn,hkzn⟩:∃ f:Nat→List Int,f=fun n=>kz p (n - 1) (many p (n - 1)):=⟨_,rfl⟩
 have kzl:∀ n,(kzn n).length=mn n:=fun n=>by rw [hkzn,hmn];exact kz_length _ _ _
 have kzg:∀ n t,t < mn n→(kzn n).getD t 0=((fs n+t:Nat):Int):=fun n t ht=>by rw [hkzn,hfs];rw [hmn] at ht;exact kz_get _ _ _ _ ht
 have kds:∀ (i:Nat) wx,Below w.heap.size w wx→p≤i→i < m→Calls Tryz.prog 39 #[.agg (rsC p vL vF),.int .i64 (i:Int)] wx (IEnd wx (kzn (i+1))):=fun i wx h a c=>by rw [hkzn];exact kds0 i wx h a (by omega)
 have ftc:∀ (i:Nat) wx,Below w.heap.size w wx→Calls Tryz.prog 37 #[v,.agg (u8s key).toArray,.agg (rsC p vL vF),.int .i64 (i:Int),.agg (refC (hd (i+1)))] wx (SealOwn wx (ft2 (i+1)).1 (ft2 (i+1)).2):=fun i wx h=>by rw [hft2];exact ft0 i (hd (i+1)) wx h (hdw _)
 have kdc:∀ (i:Nat) vx wx,Below w.heap.size w wx→Sl wx vx (ft2 (i+1)).1→Calls Tryz.prog 38 #[.agg (rsC p vL vF),.int .i64 (i:Int),vx] wx (RfOwn 57 wx (kd2 (i+1)).1 (kd2 (i+1)).2):=fun i vx wx h hs=>by rw [hkd2];exact kd0 i _ vx wx h hs (ftl _)
 have node:∀ i,p≤i→i < m→ok (i+1)=0→(ft2 (i+1)).2=0→(kd2 (i+1)).2=0→ok i=0∧laidR (WR (i+1)) (fs (i+1)) (kd2 (i+1)).1=WR i∧WP i=WP (i+1):=fun i a c d e f=>by rw [hfs];exact node (i+1) (by omega) (by omega) d e f
 have kdE:∀ i,p≤i→i < m→ok (i+1)=0→(ft2 (i+1)).2=0→(kd2 (i+1)).2≠0→wholeT B key p root=([],[],(kd2 (i+1)).2):=fun i a c d e f=>kdE (i+1) (by omega) (by omega) d e f
 have ftE:∀ i,i < m→ok (i+1)=0→(ft2 (i+1)).2≠0→wholeT B key p root=([],[],(ft2 (i+1)).2):=fun i c d e=>ftE (i+1) (by omega) (by omega) d e
 have page:∀ i,i < p→ok (i+1)=0→(ft2 (i+1)).2=0→ok i=0∧WR i=WR (i+1)∧(WP (i+1)).set i (ft2 (i+1)).1=WP i:=fun i a c d=>page (i+1) (by omega) (by omega) c d
 have kdl:∀ i,p≤i→i < m→(ft2 (i+1)).2=0→(kd2 (i+1)).2=0→(kd2 (i+1)).1.length=mn (i+1):=fun i a c d e=>by rw [hmn];exact kdl (i+1) (by omega) (by omega) d e
 have kid:∀ i,p≤i→i < m→1≤mn (i+1)∧fs (i+1)+mn (i+1)≤i∧mn (i+1)≤6:=fun i a c=>by rw [hmn,hfs];exact kid (i+1) (by omega) (by omega)
 have hdg:∀ i,(WR (i+1)).getD i zref=hd (i+1):=fun i=>by rw [hhd];rfl
 obtain ⟨Y,hY⟩:∃ Y,Y=wholeT B key p root:=⟨_,rfl⟩
 rw [←hY] at kdE ftE fin ⊢
 rw [←hm] at hit
 have zl:(zL p).length=m:=by rw [zL_length,hm]
 obtain ⟨aL,cL,eL⟩:=hR.l.hdn zl
 subst eL
 obtain ⟨i2,hi2,hz2,hs2,hb2⟩:=info_parts elemRR.2
 obtain ⟨i8,hi8,hz8,hs8,hb8⟩:=info_parts elemRS9.2
 have rs:=refC_size hrw;have ro:=refC_one root
 obtain ⟨M,hM⟩:∃ M,M=refC root:=⟨_,rfl⟩
 have hrm:refL root=M.toList:=by rw [hM];rfl
 have kc:(u8s key).toArray.size=32:=by simp [u8s_length,lk]
 obtain ⟨KC,hKC⟩:∃ K,K=(u8s key).toArray:=⟨_,rfl⟩
 have cs:(rsC p (.slice aL m cL) vF).size=3:=rfl
 obtain ⟨C,hC⟩:∃ C,C=rsC p (.slice aL m cL) vF:=⟨_,rfl⟩
 have c0:C[0]?=some (.int .i64 (p:Int)):=by rw [hC];rfl
 have c1:C[1]?=some (.slice aL m cL):=by rw [hC];rfl
 rw [←hM] at rs ro ⊢
 rw [←hKC] at kc ftc ⊢
 rw [←hC] at kds ftc kdc cs ⊢
 have a0:At (((w.alloc (.cells KC 26)).alloc (.cells C 47)).alloc (.cells M 57)) w.heap.size KC 26:=((at_new w KC _).alloc _).alloc _
 have a1:At (((w.alloc (.cells KC 26)).alloc (.cells C 47)).alloc (.cells M 57)) (w.heap.size+1) C 47:=by
  have h:=(at_new (w.alloc (.cells KC 26)) C 47).alloc (.cells M 57)
  simpa using h
 have a2:At (((w.alloc (.cells KC 26)).alloc (.cells C 47)).alloc (.cells M 57)) (w.heap.size+1+1) M 57:=by
  have h:=at_new ((w.alloc (.cells KC 26)).alloc (.cells C 47)) M 57
  simpa using h
 have b4:Below w.heap.size w (((w.alloc (.cells KC 26)).alloc (.cells C 47)).alloc (.cells M 57)):=(((Below.refl _ _).alloc (Nat.le_refl _) _).alloc (by simp) _).alloc (by simp;omega) _
 unfold WhEnd
 obtain ⟨av,cv,rfl⟩:=sl_inv hv
 obtain ⟨NB,hNB⟩:∃ n,n=B.length:=⟨_,rfl⟩
 rw [←hNB] at ftc ⊢
 have KD:=zh kds;have FTC:=zh ftc;have KDC:=zh kdc;have RW0:=zh rw0;have WP0:=zh wp0;have OK0:=zh ok0;have INV:=zh inv;have RWF:=zh rwf;have HDW:=zh hdw;have ND:=zh node;have KE:=zh kdE;have FE:=zh ftE;have PD:=zh page;have FIN:=zh fin;have KDL:=zh kdl;have KID:=zh kid;have KDW:=zh kdw;have HDG:=zh hdg;have KZL:=zh kzl;have KZG:=zh kzg
 have I2:=zh hi2;have Z2:=zh hz2;have S2:=zh hs2;have B2:=zh hb2;have I8:=zh hi8;have Z8:=zh hz8;have S8:=zh hs8;have B8:=zh hb8
 have RS1:=zh rs;have RO:=zh ro;have HM:=zh hrm;have KS:=zh kc;have CS:=zh cs;have C0:=zh c0;have C1:=zh c1;have RWF0:=zh hrw
 have A0:=zh a0;have A1:=zh a1;have A2:=zh a2;have B4:=zh b4
 clear kds ftc kdc rw0 wp0 ok0 inv rwf hdw node kdE ftE page fin kdl kid kdw hdg kzl kzg hi2 hz2 hs2 hb2 hi8 hz8 hs8 hb8 rs ro hrm kc cs c0 c1 hrw a0 a1 a2 b4
 clear node kdE ftE page kdl kid
 clear hM hKC hC hY hNB zl hmn hfs hkzn ftl eqs pd1 nd1 fkE hm hokf hWR hWP hhd hft2 hkd2 lk hv hBl hR hwf kds0 ft0 kd0
 go_enter Tryz.func14,Tryz.ntmps14
 go_upto_region 1 with fail
 generalize ((w.alloc (.cells KC 26)).alloc (.cells C 47)).alloc (.cells M 57)=w4 at *
 have hm0:¬ (m:Int)=0:=by omega
 have f1:w4.cell? ⟨w.heap.size+1,1,none⟩=some (.slice aL m cL):=(A1.out.cell 1).trans C1.out
 go_upto_region 5 with (refine wpList_make_full _ zr _ _ 54 zr w4.heap.size 57 i2 (.agg (refC zref)) 34 Tryz.underlying54 I2.out Z2.out S2.out .i64 .i64 (m:Int) (m:Int) m zr zr zr zr (by rw [B2.out];omega) (by simp [maxLen];omega) (Nat.le_refl _) ?_;intro w5 ho5 hg5;have O5:=zh ho5;have B5:Hid (Below w4.heap.size w4 w5):=zh ((Below.refl _ _).grown hg5 (Nat.le_refl _) (fun k e=>by cases e));clear ho5 hg5)
 clear f1 hm0
 have o5:OwnRf w5 w4.heap.size 57 (.slice (some ⟨w4.heap.size,0,none⟩) m m) (List.replicate m zref):=by
  have h:=O5.out
  rw [made_refs] at h
  show w5.ownsRow _ _ _ _ (List.replicate m zref).length _
  rw [List.length_replicate]
  exact h
 have O6:=zh o5
 have A05:=zh (A0.out.below B5.out A0.out.lt);have A15:=zh (A1.out.below B5.out A1.out.lt);have A25:=zh (A2.out.below B5.out A2.out.lt)
 clear o5 O5
 have f0:w5.cell? ⟨w.heap.size+1,0,none⟩=some (.int .i64 (p:Int)):=(A15.out.cell 0).trans C0.out
 go_upto_region 6 with (refine wpList_make_full _ zr _ _ 22 zr w5.heap.size 40 i8 (.slice none 0 0) 1 Tryz.underlying22 I8.out Z8.out S8.out .i64 .i64 (p:Int) (p:Int) p zr zr zr zr (by rw [B8.out];omega) (by simp [maxLen];omega) (Nat.le_refl _) ?_;intro w6 ho6 hg6;have P6:Hid (w6.ownsRow w5.heap.size 40 1 (.slice (some ⟨w5.heap.size,0,none⟩) p p) p (List.replicate p (.slice none 0 0))):=zh (by rw [made_none] at ho6;exact ho6);have Q6:Hid (Below w5.heap.size w5 w6):=zh ((Below.refl _ _).grown hg6 (Nat.le_refl _) (fun k e=>by cases e));clear ho6 hg6)
 clear f0
 have O7:=zh (ownsRow_below O6.out Q6.out)
 have B6:Hid (Below w4.heap.size w4 w6):=zh (B5.out.trans (Q6.out.mono B5.out.size))
 have A06:=zh (A05.out.below Q6.out A05.out.lt);have A16:=zh (A15.out.below Q6.out A15.out.lt);have A26:=zh (A25.out.below Q6.out A25.out.lt)
 have GLT:Hid (w4.heap.size < w5.heap.size):=zh (World.ownsRow.lt O6.out w4.heap.size rfl).2
 obtain ⟨g,hg⟩:∃ g,g=w4.heap.size:=⟨_,rfl⟩
 obtain ⟨gp,hgp⟩:∃ gp,gp=w5.heap.size:=⟨_,rfl⟩
 have HG:=zh hg
 have HNE:Hid (g < gp):=zh (by rw [hg,hgp];exact GLT.out)
 rw [←hgp] at P6 ⊢
 have O8:Hid (OwnRf w6 w4.heap.size 57 (.slice (some ⟨g,0,none⟩) m m) (List.replicate m zref)):=zh (by rw [hg];exact O7.out)
 rw [←hg]
 clear hg hgp O6 O7 Q6 GLT A05 A15 A25 B5
 obtain ⟨g',cap',cur,ev,hgB,hgl,hcur,hfit,hown⟩:=own_store (i:=m - 1) O8.out (fun r hr=>by rw [List.eq_of_mem_replicate hr];exact zref_wf) RWF0.out (by simp;omega)
 injection ev with ev1 ev2 ev3
 injection ev1 with ev1
 injection ev1 with ev1 _ _
 subst ev1
 clear ev2 ev3
 rw [RW0.out,HM.out] at hown
 have CUR:=zh hcur;have FIT:=zh hfit;have OWN:=zh hown;have GB:=zh hgB
 obtain ⟨m1,hm1⟩:∃ j,j+1=m:=⟨m - 1,by omega⟩
 have hm2:(m:Int) - 1=(m1:Int):=by omega
 have hm3:(m1:Int) < (m:Int):=by omega
 have HM1:=zh hm1
 rw [show m - 1=m1 by omega] at OWN FIT
 clear hgB hgl hcur hfit hown hm1
 go_upto_region 7 with (first
  | (refine wpList_load_all zr 57 _ zr (w.heap.size+1+1) zr _ Tryz.underlying57 zr M _ A26.out (by rw [RS1.out];exact infoRfR) ?_)
  | (refine wpList_store_at zr 57 _ _ zr zr g (m1*34) M (by first | rfl | (simp only [hm2];rfl)) zr (by rw [RS1.out];exact infoRfR) cur 57 CUR.out (by rw [RS1.out];exact FIT.out) RO.out ?_))
 have hoth:∀ k,k≠g→(w6.setRow g (Mem.splice cur (m1*34) M.toList)).heap[k]?=w6.heap[k]?:=fun k hne=>setRow_other w6 g k _ hne
 have B7:Hid (Below w4.heap.size w4 (w6.setRow g (Mem.splice cur (m1*34) M.toList))):=zh (below_row B6.out GB.out _)
 have P7:Hid ((w6.setRow g (Mem.splice cur (m1*34) M.toList)).ownsRow gp 40 1 (.slice (some ⟨gp,0,none⟩) p p) p (List.replicate p (.slice none 0 0))):=zh (by
  refine ownsRow_keep P6.out fun k hk=>hoth k ?_
  have h1:k=gp:=by simpa [Value.ownBlock] using hk.symm
  have:=HNE.out;omega)
 have E7:Hid (Each2 (fun p q=>SlB (fun _=>False) (w6.setRow g (Mem.splice cur (m1*34) M.toList)) p q) (List.replicate p (.slice none 0 0)) (WP m)):=zh (by rw [WP0.out];exact each_none _ _ _)
 clear hoth
 generalize w6.setRow g (Mem.splice cur (m1*34) M.toList)=w7 at *
 clear CUR FIT P6 B6 A06 A16 A26 O8
 have IN0:Hid (.int .i64 (m1:Int)=Value.int .i64 ((m:Int) - 1)):=zh (by rw [hm2])
 clear hm3
 go_wp2_with fail
 go_loopw [14] (fun vi wr=>∃ n:Nat,n≤m∧vi=.int .i64 ((n:Int) - 1)∧ok n=0∧OwnRf wr w4.heap.size 57 (.slice (some ⟨g,0,none⟩) m m) (WR n)∧(∃ D hs,Each2 (fun p q=>SlB D wr p q) hs (WP n)∧wr.ownsRow gp 40 1 (.slice (some ⟨gp,0,none⟩) p p) p hs∧∀ k,D k→k < wr.heap.size∧k≠gp∧k≠g)∧Below w4.heap.size w4 wr) (fun vi _=>(intOf vi+1).toNat)
 case atStart=>exact ⟨m,Nat.le_refl _,IN0.out,OK0.out,OWN.out,⟨_,_,E7.out,P7.out,fun k hk=>hk.elim⟩,B7.out⟩
 case round=>
  clear OWN E7 P7 B7 IN0 OK0
  obtain ⟨n,hnm,rfl,hk0,ho,⟨D,hs,he,hown,hD⟩,hbq⟩:=hrel
  have OQ:=zh ho;have BQ:=zh hbq;have OK:=zh hk0;have EQ:=zh he;have PQ:=zh hown;have DQ:=zh hD
  clear ho hbq hk0 he hown hD
  obtain ⟨hl1,hl2⟩:=INV.out n hnm OK.out
  have HL1:=zh hl1;have HL2:=zh hl2
  clear hl1 hl2
  have BX:Hid (Below w.heap.size w wr):=zh (B4.out.trans (BQ.out.mono B4.out.size))
  rcases Nat.eq_zero_or_pos n with hn0 | hn0
  ·subst hn0
   have hy:=FIN.out OK.out
   have HY:=zh hy
   have SR:=zh (own_slrf OQ.out (RWF.out 0))
   have SP:=zh (own_sls EQ.out (by rw [HL2.out];exact PQ.out))
   have hz:((0:Nat):Int) - 1=-1:=rfl
   clear hy
   rw [hz]
   clear hz
   go_wp2_with fail
   go_ret3
   exact ⟨_,_,by rw [HY.out];rfl,by rw [HY.out];exact SR.out,by rw [HY.out];exact SP.out,BX.out⟩
  ·obtain ⟨i,rfl⟩:∃ i,n=i+1:=⟨n - 1,by omega⟩
   have hz:((i+1:Nat):Int) - 1=(i:Int):=by omega
   rw [hz]
   have hj0:(0:Int)≤(i:Int):=by omega
   have him:i < m:=by omega
   have A0W:=zh (A0.out.below BQ.out A0.out.lt);have A1W:=zh (A1.out.below BQ.out A1.out.lt)
   have hdr:∀ y,Below wr.heap.size wr y→y.rangeAt g (0+i*34) (refL (hd (i+1))):=fun y hy=>by
    have h:=slrf_cell (i:=i) ((own_slrf OQ.out (RWF.out _)).below hy) HL1.out.symm (by omega)
    rw [HDG.out] at h
    exact h
   have hft:=FTC.out i wr.drew ((BX.out).drew)
   have hfe:=FE.out i him OK.out
   have hds:=refC_size (HDW.out (i+1))
   obtain ⟨HM2,hHM2⟩:∃ m,m=refC (hd (i+1)):=⟨_,rfl⟩
   have hdm:refL (hd (i+1))=HM2.toList:=by rw [hHM2];rfl
   rw [←hHM2] at hft hds
   rw [hdm] at hdr
   have hpd:=fun a=>PD.out i a OK.out
   have hnd:=fun a=>ND.out i a him OK.out
   have hke:=fun a=>KE.out i a him OK.out
   have hkl:=fun a=>KDL.out i a him
   have hkc:=KDC.out i
   obtain ⟨tx,e,hte⟩:∃ a c,ft2 (i+1)=(a,c):=⟨_,_,rfl⟩
   rw [hte] at hft hfe hpd hnd hke hkl hkc
   simp only at hft hfe hpd hnd hke hkl hkc
   have FTI:=zh hft;have FEI:=zh hfe;have HDS:=zh hds;have HDR:=zh hdr;have PDI:=zh hpd;have NDI:=zh hnd;have KEI:=zh hke;have KLI:=zh hkl;have KCI:=zh hkc
   clear hft hfe hds hdm hdr hHM2 hte hz hn0 hpd hnd hke hkl hkc
   go_upto_region 10 with fail
   have D0:Hid (Below wr.heap.size wr wr.drew):=zh (Below.refl _ _).drew
   refine wp_region_plan_in (fun y=>Below wr.heap.size wr y) (.take 0 (.take 1 (.take 2 (.take 3 (.take 4 (.take 5 (.take 6 (.take 7 (.sole 8 (.take 9 (.take 10 (.take 11 (.take 12 (.take 13 .done)))))))))))))) (by kernel_rfl) (by kernel_rfl) (by kernel_rfl) D0.out ?_
   (first | refine Mem.pm1 ?_ | refine Mem.pm2 ?_ | refine Mem.pt ?_ | refine Mem.pf ?_)
   (simp only [Mem.zp,Mem.pb,Mem.pc])
   refine plan_row 26 _ w.heap.size _ KC 26 zr zr zr ze (fun w' hw'=>A0W.out.below hw' A0W.out.lt) Tryz.underlying26 zr (by rw [KS.out];kernel_rfl) ?_
   (simp only [Mem.zp,Mem.pb,Mem.pc])
   refine plan_row 47 _ (w.heap.size+1) _ C 47 zr zr zr ze (fun w' hw'=>A1W.out.below hw' A1W.out.lt) Tryz.underlying47 zr (by rw [CS.out];exact infoRS) ?_
   (simp only [Mem.zp,Mem.pb,Mem.pc])
   iterate 3 ((first | refine Mem.pm1 ?_ | refine Mem.pm2 ?_ | refine Mem.pt ?_ | refine Mem.pf ?_);(simp only [Mem.zp,Mem.pb,Mem.pc]))
   refine plan_index_z 54 57 _ _ g 0 m m 34 i zr zr zr ze ze him Tryz.underlying54 infoRfR ?_
   (simp only [Mem.zp,Mem.pb,Mem.pc])
   refine plan_load_range 57 _ g (0+i*34) _ HM2 zr zr zr ze (fun w' hw'=>HDR.out w' hw') Tryz.underlying57 zr (by rw [HDS.out];exact infoRfR) ?_
   (simp only [Mem.zp,Mem.pb,Mem.pc])
   refine plan_call 37 _ _ _ (by kernel_rfl) zr zr zr (by first | exact Mem.ev_none _ | (simp only [List.map_toArray,List.map_cons,List.map_nil,Mem.ev_tmp,List.getD_cons_succ,List.getD_cons_zero] <;> rfl)) ?_
   refine (FTI.out).mono ?_
   rintro o8 w8 ⟨vt,rfl,ho8,hb8⟩
   have S8t:Hid (SlB (fun k=>wr.heap.size≤k∧k < w8.heap.size) w8 vt tx):=zh (SlR.mono (OwnB.slB ho8) fun k hk hl=>⟨hk,hl⟩)
   have Q8:Hid (Below wr.heap.size wr w8):=zh (D0.out.trans (hb8.mono (Nat.le_refl _)))
   clear ho8 hb8
   refine ⟨_,rfl,Q8.out,?_⟩
   (simp only [Mem.zp,Mem.pb,Mem.pc])
   (first | refine Mem.pm1 ?_ | refine Mem.pm2 ?_ | refine Mem.pt ?_ | refine Mem.pf ?_)
   (simp only [Mem.zp,Mem.pb,Mem.pc])
   refine plan_extract _ 0 _ vt zr zr zr ze zr ?_
   (simp only [Mem.zp,Mem.pb,Mem.pc])
   refine plan_extract _ 1 _ (.int .i64 e) zr zr zr ze zr ?_
   (simp only [Mem.zp,Mem.pb,Mem.pc])
   iterate 2 ((first | refine Mem.pm1 ?_ | refine Mem.pm2 ?_ | refine Mem.pt ?_ | refine Mem.pf ?_);(simp only [Mem.zp,Mem.pb,Mem.pc]))
   refine plan_nil ?_
   obtain ⟨at1,ct1,rfl⟩:=sl_inv S8t.out.sl
   have BX8:Hid (Below w.heap.size w w8):=zh (BX.out.trans (Q8.out.mono BX.out.size))
   by_cases he:e=0
   ·subst he
    have A18:=zh (A1W.out.below Q8.out A1W.out.lt)
    have f0:w8.cell? ⟨w.heap.size+1,0,none⟩=some (.int .i64 (p:Int)):=(A18.out.cell 0).trans C0.out
    have hgl8:g < wr.heap.size:=(World.ownsRow.lt OQ.out g rfl).2
    have hgl15:=(World.ownsRow.lt PQ.out gp rfl).2
    by_cases hip:i < p
    ·obtain ⟨s1,s2,s3⟩:=PDI.out hip rfl
     obtain ⟨g',cap',cur,ev,hgB,hgl,hcur,hfit,hset⟩:=own_set1 (i:=i) (x:=.slice at1 tx.length ct1) (ownsRow_below PQ.out Q8.out) hip
     injection ev with ev1 ev2 ev3
     injection ev1 with ev1
     injection ev1 with ev1 _ _
     subst ev1
     clear ev2 ev3
     have CUR:=zh hcur;have FIT:=zh hfit;have SET:=zh hset;have S1:=zh s1;have S2':=zh s2;have S3:=zh s3;have GPL:=zh hgl15;have GL8:=zh hgl8
     have hjp:(i:Int) < (p:Int):=by omega
     obtain ⟨nt,hnt⟩:∃ nt,nt=tx.length:=⟨_,rfl⟩
     rw [←hnt] at SET S8t ⊢
     clear s1 s2 s3 hgB hgl hcur hfit hset hgl15 hgl8 hnt
     go_wp2_with (refine Mem.wpList_store_one zr 40 _ _ zr zr gp i (.slice at1 nt ct1) zr zr zr infoSl14 _ 40 CUR.out FIT.out ?_;intro w16 ha16 ho16 hb16;have PN:=zh (SET.out w16 ha16);have H16:=zh ho16;have BN:Hid (Below w4.heap.size w4 w16):=zh (hb16 _ _ (BQ.out.trans (Q8.out.mono BQ.out.size)) (by have:=HNE.out;have:=HG.out;omega));have Z16:Hid (w8.heap.size≤w16.heap.size):=zh (hb16 0 w8 (Below.refl _ _) (Nat.zero_le _)).size;clear ha16 ho16 hb16)
     have ON:Hid (OwnRf w16 w4.heap.size 57 (.slice (some ⟨g,0,none⟩) m m) (WR i)):=zh (by
      rw [S2'.out]
      exact ownsRow_keep (ownsRow_below OQ.out Q8.out) fun k hk=>H16.out k (by
       have:k=g:=by simpa [Value.ownBlock] using hk.symm
       have:=HNE.out;omega))
     have EN:Hid (Each2 (fun p q=>SlB (fun k=>D k∨(wr.heap.size≤k∧k < w8.heap.size)) w16 p q) (hs.set i (.slice at1 nt ct1)) (WP i)):=zh (by
      rw [←S3.out]
      refine Each2.set i (EQ.out.mono fun a q hx=>?_) ?_
      ·exact ((hx.keep Q8.out.size fun k _ hl=>Q8.out.block k hl).keep Z16.out fun k hd _=>H16.out k (DQ.out k hd).2.1).mono fun k hd _=>.inl hd
      ·exact (S8t.out.keep Z16.out fun k hk _=>H16.out k (by have:=GPL.out;omega)).mono fun k hk _=>.inr hk)
     have DN:Hid (∀ k,(D k∨(wr.heap.size≤k∧k < w8.heap.size))→k < w16.heap.size∧k≠gp∧k≠g):=zh fun k hk=>by
      have z15:=Q8.out.size;have z16:=Z16.out;have gl:=GPL.out;have gg:=GL8.out
      rcases hk with h | h
      ·have:=DQ.out k h
       exact ⟨by omega,this.2⟩
      ·exact ⟨by omega,by omega,by omega⟩
     go_roundw
     case rel=>exact ⟨i,by omega,rfl,S1.out,ON.out,⟨_,_,EN.out,PN.out,DN.out⟩,BN.out⟩
     case measure=>simp [intOf]
    ·have hpi:p≤i:=by omega
     have hip2:¬ (i:Int) < (p:Int):=by omega
     have hnd:=NDI.out hpi rfl
     have hke:=KEI.out hpi rfl
     have hkl:=KLI.out hpi rfl
     have hkw:=KDW.out (i+1)
     have hkc:=fun vx wx a b=>KCI.out vx wx a b
     obtain ⟨kL,f,hkf⟩:∃ a c,kd2 (i+1)=(a,c):=⟨_,_,rfl⟩
     rw [hkf] at hnd hke hkl hkw hkc
     simp only at hnd hke hkl hkw hkc
     obtain ⟨k1,k2,k3⟩:=KID.out i hpi him
     obtain ⟨c,hc⟩:∃ c,c=mn (i+1):=⟨_,rfl⟩
     obtain ⟨fst1,hf1⟩:∃ f,f=fs (i+1):=⟨_,rfl⟩
     have hkd:=fun wx h=>KD.out i wx h hpi him
     have hkzl:=KZL.out (i+1)
     have hkzg:=KZG.out (i+1)
     rw [←hc] at hkl k1 k2 k3 hkzl hkzg
     rw [←hf1] at hnd k2 hkzg
     obtain ⟨KZ1,hKZ1⟩:∃ K,K=kzn (i+1):=⟨_,rfl⟩
     rw [←hKZ1] at hkd hkzl hkzg
     have NDJ:=zh hnd;have KEJ:=zh hke;have KLJ:=zh hkl;have KWJ:=zh hkw;have KCJ:=zh hkc;have KDJ:=zh hkd;have KZLJ:=zh hkzl;have KZGJ:=zh hkzg;have GL8:=zh hgl8;have GPL:=zh hgl15
     have ST:=zh S8t.out.sl
     obtain ⟨nt,hnt⟩:∃ nt,nt=tx.length:=⟨_,rfl⟩
     rw [←hnt] at ST ⊢
     clear hnd hke hkl hkw hkc hkf hkd hkzl hkzg hKZ1 hc hf1 hgl8 hgl15 hnt
     go_wp2_with (refine wpList_load_all zr 47 _ zr (w.heap.size+1) zr _ Tryz.underlying47 zr C _ A18.out (by rw [CS.out];exact infoRS) ?_)
     refine (KCJ.out _ _ BX8.out ST.out).mono ?_
     rintro e w9 ⟨vk,rfl,hr9,hb9⟩
     have R9:Hid (OwnRf w9 w8.heap.size 57 vk kL):=zh hr9
     have Q9:=zh hb9
     have BX9:Hid (Below w.heap.size w w9):=zh (BX8.out.trans (hb9.mono BX8.out.size))
     have A19:=zh (A18.out.below hb9 A18.out.lt)
     clear hr9 hb9 f0
     by_cases hf:f=0
     ·subst hf
      have hkl:=KLJ.out rfl
      obtain ⟨s1,s2,s3⟩:=NDJ.out rfl
      have S1:=zh s1;have S2':=zh s2;have S3:=zh s3;have HKL:=zh hkl
      obtain ⟨ak8,ck8,e8⟩:=rows_hd R9.out
      rw [hkl] at e8
      subst e8
      clear s1 s2 s3 hkl
      go_wp2_with (refine wpList_load_all zr 47 _ zr (w.heap.size+1) zr _ Tryz.underlying47 zr C _ A19.out (by rw [CS.out];exact infoRS) ?_)
      refine (KDJ.out _ BX9.out).mono ?_
      rintro e w10 ⟨vz,rfl,hz,hb10⟩
      obtain ⟨az,cz,ez⟩:=hz.hdn KZLJ.out
      subst ez
      obtain ⟨zb,zo,ea,_,hzc⟩:=sli_at (i:=0) hz KZLJ.out.symm (by omega)
      rw [KZGJ.out 0 (by omega),Nat.add_zero] at hzc
      subst ea
      have R10:Hid (OwnRf w10 w8.heap.size 57 (.slice ak8 c ck8) kL):=zh (ownsRow_below R9.out hb10)
      have Q10:Hid (Below wr.heap.size wr w10):=zh ((Q8.out.trans (Q9.out.mono Q8.out.size)).trans (hb10.mono (Nat.le_trans Q8.out.size Q9.out.size)))
      have O10:Hid (OwnRf w10 w4.heap.size 57 (.slice (some ⟨g,0,none⟩) m m) (laidR (WR (i+1)) fst1 (kL.take 0))):=zh (by
       rw [List.take_zero,laidR_none]
       exact ownsRow_below OQ.out Q10.out)
      have B10:Hid (Below w4.heap.size w4 w10):=zh (BQ.out.trans (Q10.out.mono BQ.out.size))
      have P10:=zh (ownsRow_below PQ.out Q10.out)
      have E10:Hid (Each2 (fun p q=>SlB D w10 p q) hs (WP (i+1))):=zh (EQ.out.mono fun a q hx=>hx.keep Q10.out.size fun k _ hl=>Q10.out.block k hl)
      have Z10:Hid (wr.heap.size≤w10.heap.size):=zh Q10.out.size
      have hc0:(0:Int) < (c:Int):=by omega
      obtain ⟨ws0,hws0⟩:∃ s,s=wr.heap.size:=⟨_,rfl⟩
      rw [←hws0] at Z10 GL8
      have Q88:Hid (ws0≤w8.heap.size):=zh (by rw [hws0];exact Q8.out.size)
      have DQ2:Hid (∀ k,D k→k < ws0∧k≠gp∧k≠g):=zh (by rw [hws0];exact DQ.out)
      clear hws0 hz hb10 R9 Q8 DQ
      go_wp2_with fail
      clear hzc
      go_loopw [20] (fun vt wq=>∃ t:Nat,t≤c∧vt=.int .i64 (t:Int)∧OwnRf wq w4.heap.size 57 (.slice (some ⟨g,0,none⟩) m m) (laidR (WR (i+1)) fst1 (kL.take t))∧OwnRf wq w8.heap.size 57 (.slice ak8 c ck8) kL∧Each2 (fun p q=>SlB D wq p q) hs (WP (i+1))∧wq.ownsRow gp 40 1 (.slice (some ⟨gp,0,none⟩) p p) p hs∧ws0≤wq.heap.size∧Below w4.heap.size w4 wq) (fun vt _=>c - (intOf vt).toNat)
      case atStart=>exact ⟨0,by omega,rfl,O10.out,R10.out,E10.out,P10.out,Z10.out,B10.out⟩
      case round=>
       clear O10 R10 E10 P10 Z10 B10
       obtain ⟨t,htc,rfl,ho,hr,hee,hpp,hzz,hbq⟩:=hrel
       have OI:=zh ho;have RI:=zh hr;have EI:=zh hee;have PI:=zh hpp;have ZI:=zh hzz;have BI:=zh hbq
       clear ho hr hee hpp hzz hbq
       by_cases hlt:t < c
       ·have hlt2:(t:Int) < (c:Int):=by omega
        obtain ⟨kb,kof,ea,hkl,hkr⟩:=slrf_at (i:=t) (own_slrf RI.out KWJ.out) HKL.out.symm hlt
        subst ea
        obtain ⟨q,hq⟩:∃ q,q=fst1+t:=⟨_,rfl⟩
        have hqm:(q:Int) < (m:Int):=by omega
        have hq2:(fst1:Int)+(t:Int)=(q:Int):=by omega
        obtain ⟨rr,hrr⟩:∃ r,r=kL.getD t zref:=⟨_,rfl⟩
        rw [←hrr] at hkr
        have hrw:rr.Wf:=by rw [hrr];exact getD_wf KWJ.out t
        have rs1:=refC_size hrw;have ro1:=refC_one rr
        obtain ⟨RM,hRM⟩:∃ m,m=refC rr:=⟨_,rfl⟩
        have hrm1:refL rr=RM.toList:=by rw [hRM];rfl
        rw [←hRM] at rs1 ro1
        have hlk:kL.length=c:=HKL.out
        have hset:=laidR_set (R:=WR (i+1)) (f:=fst1) (L:=kL) (t:=t) (by rw [HL1.out];omega) (by omega)
        have hll:=laidR_length (R:=WR (i+1)) (f:=fst1) (L:=kL.take t) (by rw [HL1.out,List.length_take];omega)
        obtain ⟨g',cap',cur,ev,hgB,hgl,hcur,hfit,hown⟩:=own_store (i:=q) OI.out (laidR_wf (RWF.out _) fun r hr=>KWJ.out r (List.mem_of_mem_take hr)) hrw (by rw [hll,HL1.out];omega)
        injection ev with ev1 ev2 ev3
        injection ev1 with ev1
        injection ev1 with ev1 _ _
        subst ev1
        clear ev2 ev3
        rw [hq,hrr,hset,←hrr,←hq,hrm1] at hown
        rw [hrm1] at hkr
        have hother:∀ k,k≠g→(wr.setRow g (Mem.splice cur (q*34) RM.toList)).heap[k]?=wr.heap[k]?:=fun k hne=>setRow_other wr g k _ hne
        have CUR:=zh hcur;have FIT:=zh hfit;have OWN:=zh hown;have RS2:=zh rs1;have RO1:=zh ro1;have RG1:=zh hkr
        have BN:Hid (Below w4.heap.size w4 (wr.setRow g (Mem.splice cur (q*34) RM.toList))):=zh (below_row BI.out hgB _)
        have RN:Hid (OwnRf (wr.setRow g (Mem.splice cur (q*34) RM.toList)) w8.heap.size 57 (.slice (some ⟨kb,kof,none⟩) c ck8) kL):=zh (ownsRow_keep RI.out fun k hk=>hother k (by have:=(World.ownsRow.lt RI.out k hk).1;have:=GL8.out;have:=Q88.out;omega))
        have PN:Hid ((wr.setRow g (Mem.splice cur (q*34) RM.toList)).ownsRow gp 40 1 (.slice (some ⟨gp,0,none⟩) p p) p hs):=zh (ownsRow_keep PI.out fun k hk=>hother k (by
         have:k=gp:=by simpa [Value.ownBlock] using hk.symm
         have:=HNE.out;omega))
        have ZN:Hid (wr.heap.size≤(wr.setRow g (Mem.splice cur (q*34) RM.toList)).heap.size):=zh (below_row (Below.refl 0 wr) (Nat.zero_le _) _).size
        have EN:Hid (Each2 (fun x1 y1=>SlB D (wr.setRow g (Mem.splice cur (q*34) RM.toList)) x1 y1) hs (WP (i+1))):=zh (EI.out.mono fun a r hx=>hx.keep ZN.out fun k hd _=>hother k (DQ2.out k hd).2.2)
        clear hkr hrr hrw rs1 ro1 hRM hrm1 hset hll hgB hgl hcur hfit hown hother hkl hlk hq
        go_wp2_with (first
         | (refine wpList_load_mid zr 57 _ zr kb (kof+t*34) zr RM.toList _ RG1.out Tryz.underlying57 zr (by rw [infoRfR,Array.length_toList,RS2.out]) ?_;rw [Array.toArray_toList])
         | (refine wpList_store_at zr 57 _ _ zr zr g (q*34) RM (by first | rfl | (simp only [hq2];rfl)) zr (by rw [RS2.out];exact infoRfR) cur 57 CUR.out (by rw [RS2.out];exact FIT.out) RO1.out ?_))
        go_roundw
        case rel=>exact ⟨t+1,by omega,by go_num,OWN.out,RN.out,EN.out,PN.out,Nat.le_trans ZI.out ZN.out,BN.out⟩
        case measure=>simp [intOf];omega
       ·have htc2:t=c:=by omega
        have hge3:¬ (t:Int) < (c:Int):=by omega
        have hon:OwnRf wr w4.heap.size 57 (.slice (some ⟨g,0,none⟩) m m) (WR i):=by
         have h:=OI.out
         rw [htc2,←HKL.out,List.take_length,S2'.out] at h
         exact h
        have ON:=zh hon
        have EN:Hid (Each2 (fun p q=>SlB D wr p q) hs (WP i)):=zh (by rw [S3.out];exact EI.out)
        have DN:Hid (∀ k,D k→k < wr.heap.size∧k≠gp∧k≠g):=zh fun k hk=>⟨Nat.lt_of_lt_of_le (DQ2.out k hk).1 ZI.out,(DQ2.out k hk).2⟩
        clear hon OI
        go_wp2_with fail
        go_roundw
        case rel=>exact ⟨i,by omega,rfl,S1.out,ON.out,⟨_,_,EN.out,PI.out,DN.out⟩,BI.out⟩
        case measure=>simp [intOf]
     ·have hy:=KEJ.out hf
      have HY:=zh hy
      have hne:¬ f=0:=hf
      clear hy hf
      go_wp2_with fail
      go_ret3
      exact ⟨_,_,by rw [HY.out];rfl,by rw [HY.out];exact SlRf.nil _,by rw [HY.out];exact ⟨none,0,rfl,Nat.le_refl _,fun h=>absurd rfl h⟩,BX9.out⟩
   ·have hy:=FEI.out he
    have HY:=zh hy
    have hne:¬ e=0:=he
    clear hy he
    go_wp2_with fail
    go_ret3
    exact ⟨_,_,by rw [HY.out];rfl,by rw [HY.out];exact SlRf.nil _,by rw [HY.out];exact ⟨none,0,rfl,Nat.le_refl _,fun h=>absurd rfl h⟩,BX8.out⟩
theorem fetches14_good (T:TreeP) (l:List (Lb8)) (ts:List Tn14) (z:Int) (v vt:Value) (w:World) (hT:TT w) (hs:Sls w v l) (ht:SlTn w vt ts) (hf:farP l=false) (h0:l.length≠0) (h216:l.length≤216) (h20:ts.length≤20) :
 Calls Tryz.prog 3 #[v,vt,.int .i64 z] w (fun e w'=>e=.returned (.bool true)∧Below w.heap.size w w'):=by
 have hP:=pages_good14 h0 h216
 have fr:=far14_any l v w hs
 rw [hf] at fr
 have pg:=fun wx (h:Below w.heap.size w wx)=>pages_any l v wx (hs.below h) (by omega)
 have hlen:(l.map pageL).length=l.length:=List.length_map ..
 obtain ⟨P,hPe⟩:∃ P,P=l.map pageL:=⟨_,rfl⟩
 rw [←hPe] at hP pg hlen
 obtain ⟨nt,hnt⟩:∃ n,n=ts.length:=⟨_,rfl⟩
 rw [←hnt] at h20
 obtain ⟨kb,hkb⟩:∃ k,k=BitVec.ofNat 8 nt:=⟨_,rfl⟩
 have cvk:=conv_k14 nt h20
 rw [←hkb] at cvk
 have hk32:(kb::List.replicate 31 (0:BitVec 8)).length=32:=by simp
 have bk1:=build_K114 kb
 have kone:(u8s (kb::List.replicate 31 (0:BitVec 8))).toArray.all (·.oneCell')=true:=u8s_one _
 obtain ⟨key,hkey⟩:∃ k,k=kb::List.replicate 31 (0:BitVec 8):=⟨_,rfl⟩
 rw [←hkey] at hk32 bk1 kone
 have kc:(u8s key).toArray.size=32:=by simp [u8s_length,hk32]
 have ld:∀ v wx,Below w.heap.size w wx→Sls wx v P→Calls Tryz.prog 6 #[.pointer none,.agg (u8s key).toArray,.int .u32 9,v] wx (LdEnd key 9 P wx):=fun v wx h hs=>laid_any T key 9 P v wx (hT.below h) hk32 hP hs
 have hok:=(img_ok (key:=key) (ep:=9) hP).mono (m':=1000) (by have:=itn_big P.length hP.p0 hP.p1;omega)
 have hit:=itn_big P.length hP.p0 hP.p1
 have hrw:(refT key 9 P (itn P.length - 1)).Wf:=refT_wf _
 have wh:=fun (F:Foot) (b:Nat) (s:St6) wx (h:Below w.heap.size w wx) (hp:PSt F b wx s) (ho:Ok6 1000 s) (hw:s.w=[])=>T.whole key P.length (refT key 9 P (itn P.length - 1)) wx (hT.below h) hk32 hp ho hw hP.p0 hP.p1 hrw
 have wy:=fun (F:Foot) (b:Nat) (s:St6) wx (h:Below w.heap.size w wx) (hp:PSt F b wx s) (ho:Ok6 1000 s) (hw:s.w=[])=>T.way key P.length (refT key 9 P (itn P.length - 1)) z wx (hT.below h) hk32 hp ho hw hP.p0 hP.p1 hrw
 have rwh:=fun (B:Lb8) vb vL vF wx (hv:Sl wx vb B) (hl:B.length≤1000000) (hR:RS wx P.length vL vF)=>rwhole14_any B key P.length (refT key 9 P (itn P.length - 1)) vb vL vF wx hk32 hv hl hR hP.p0 hP.p1 hrw
 have rwy:=fun (B:Lb8) vb vL vF wx (hv:Sl wx vb B) (hl:B.length≤1000000) (hR:RS wx P.length vL vF)=>rway14_any B key P.length (refT key 9 P (itn P.length - 1)) z vb vL vF wx hk32 hv hl hR hP.p0 hP.p1 hrw
 have hwf:=fun B=>wholeT_wf (B:=B) (key:=key) (p:=P.length) hrw
 have hfw:=fun B=>wholeT_few (B:=B) (key:=key) (root:=refT key 9 P (itn P.length - 1)) hP.p0 hP.p1
 have ywf:=fun B=>wayT_wf (B:=B) (key:=key) (p:=P.length) hrw z
 have yfw:=fun B=>wayT_few (B:=B) (key:=key) (p:=P.length) (root:=refT key 9 P (itn P.length - 1)) z
 have rnw:=fun wx=>rnew_any P.length wx hP.p0 hP.p1
 have live:=fun wx (h:Below w.heap.size w wx)=>alive14_any T wx (hT.below h)
 have hbk:=fun wx=>pblocks_any P.length wx hP.p1
 have hbz:blksP P.length=((2+2*itn P.length:Nat):Int):=by unfold blksP;rw [if_neg (by have:=hP.p0;omega)];omega
 rw [hbz] at hbk
 have hp1:=hP.p1
 have hp0:=hP.p0
 obtain ⟨p,hp⟩:∃ p,p=P.length:=⟨_,rfl⟩
 have hpl:p=l.length:=by omega
 obtain ⟨root,hroot⟩:∃ r,r=refT key 9 P (itn P.length - 1):=⟨_,rfl⟩
 replace ld:∀ v wx,Below w.heap.size w wx→Sls wx v P→Calls Tryz.prog 6 #[.pointer none,.agg (u8s key).toArray,.int .u32 9,v] wx (fun e w'=>∃ b F,e=.returned (.tuple #[rq b,.agg (psC p),.agg (refC root),.bool true])∧PSt F b w' (stImg key 9 P)∧(∀ k,F k→wx.heap.size≤k)∧Below wx.heap.size wx w'):=fun v wx h hs=>by
  have g:=ld v wx h hs
  unfold LdEnd at g
  rw [←hroot,←hp] at g
  exact g
 rw [←hroot] at wh wy rwh rwy hrw hwf hfw ywf yfw
 have hn0:(stImg key 9 P).n=2+2*itn P.length:=rfl
 have hw0:(stImg key 9 P).w=[]:=rfl
 rw [←hp] at wh wy rwh rwy rnw hbk hn0 hit hwf hfw ywf yfw
 obtain ⟨I,hI⟩:∃ I,I=stImg key 9 P:=⟨_,rfl⟩
 rw [←hI] at ld hok hn0 hw0
 obtain ⟨N,hN⟩:∃ N,N=2+2*itn p:=⟨_,rfl⟩
 rw [←hN] at hbk hn0
 have hN0:0 < N:=by omega
 have hN9:N≤1000:=by omega
 obtain ⟨WT,hWT⟩:∃ f:Lb8→List RefV × List (Lb8) × Int,f=fun B=>wholeT B key p root:=⟨_,rfl⟩
 obtain ⟨YT,hYT⟩:∃ f:Lb8→List RefV × Lb8 × Int,f=fun B=>wayT B key p root z:=⟨_,rfl⟩
 replace hwf:∀ B,∀ x∈(WT B).1,x.Wf:=by rw [hWT];exact hwf
 replace hfw:∀ B,(WT B).1.length≤1000∧(WT B).2.1.length≤1000∧∀ x∈(WT B).2.1,x.length≤1000000:=by rw [hWT];exact hfw
 replace ywf:∀ B,∀ x∈(YT B).1,x.Wf:=by rw [hYT];exact ywf
 replace yfw:∀ B,(YT B).1.length≤1000∧(YT B).2.1.length≤1000:=by rw [hYT];exact yfw
 replace wh:∀ (F:Foot) (b:Nat) (s:St6) wx,Below w.heap.size w wx→PSt F b wx s→Ok6 1000 s→s.w=[]→Calls Tryz.prog 13 #[.pointer none,rq b,.agg (u8s key).toArray,.agg (psC p),.agg (refC root)] wx (WhEnd wx (WT s.b)):=by rw [hWT];exact wh
 replace wy:∀ (F:Foot) (b:Nat) (s:St6) wx,Below w.heap.size w wx→PSt F b wx s→Ok6 1000 s→s.w=[]→Calls Tryz.prog 15 #[.pointer none,rq b,.agg (u8s key).toArray,.agg (psC p),.agg (refC root),.int .i64 z] wx (WyEnd wx (YT s.b)):=by rw [hYT];exact wy
 replace rwh:∀ (B:Lb8) vb vL vF wx,Sl wx vb B→B.length≤1000000→RS wx p vL vF→Calls Tryz.prog 14 #[vb,.agg (u8s key).toArray,.agg (rsC p vL vF),.agg (refC root)] wx (WhEnd wx (WT B)):=by rw [hWT];exact rwh
 replace rwy:∀ (B:Lb8) vb vL vF wx,Sl wx vb B→B.length≤1000000→RS wx p vL vF→Calls Tryz.prog 16 #[vb,.agg (u8s key).toArray,.agg (rsC p vL vF),.agg (refC root),.int .i64 z] wx (WyEnd wx (YT B)):=by rw [hYT];exact rwy
 obtain ⟨asx,cap,rfl,_,_⟩:=id hs
 obtain ⟨at_,ct,rfl,_⟩:=id ht
 rw [←hpl] at fr pg h0 h216 ⊢
 rw [←hnt] at ht ⊢
 have rs:=refC_size hrw;have ro:=refC_one root
 obtain ⟨M,hM⟩:∃ M,M=refC root:=⟨_,rfl⟩
 rw [←hM] at rs ro ld wh wy rwh rwy
 obtain ⟨Z,hZ⟩:∃ Z,Z=refC zref:=⟨_,rfl⟩
 have zs:Z.size=34:=by rw [hZ];exact refC_size zref_wf
 have alR:=al_R14
 obtain ⟨C,hC⟩:∃ C,C=psC p:=⟨_,rfl⟩
 obtain ⟨Y,hYs⟩:∃ C,C=psC 0:=⟨_,rfl⟩
 have alS:=al_S14
 have cs:C.size=1:=by rw [hC];rfl
 have co:C.all (·.oneCell')=true:=by rw [hC];exact psC_one p
 have ys:Y.size=1:=by rw [hYs];rfl
 obtain ⟨ZS,hZS⟩:∃ Z,Z=rsC 0 (.slice none 0 0) (.slice none 0 0):=⟨_,rfl⟩
 have zss:ZS.size=3:=by rw [hZS];rfl
 have hxs:=zeroShR
 obtain ⟨ZK,hZK⟩:∃ Z,Z=(u8s (List.replicate 32 (0:BitVec 8))).toArray:=⟨_,rfl⟩
 have zks:ZK.size=32:=by rw [hZK];rfl
 have hxk:=zero_K014
 obtain ⟨KC,hKC⟩:∃ K,K=(u8s key).toArray:=⟨_,rfl⟩
 rw [←hYs] at alS
 rw [←hZ] at alR
 rw [←hZS] at hxs
 rw [←hZK] at hxk
 rw [←hC] at ld wh wy hbk
 rw [←hKC] at ld wh wy rwh rwy bk1 kone kc
 have g0:((p:Int) == 0)=false:=beq_eq_false_iff_ne.mpr (by omega)
 have g1:¬ (p:Int)=0:=by omega
 have g2:¬ (216:Int) < (p:Int):=by omega
 have g3:¬ (20:Int) < (nt:Int):=by omega
 have g4:decide ((20:Int) < (nt:Int))=false:=decide_eq_false g3
 have FR:=zh fr;have PGG:=zh pg;have LD:=zh ld;have WH:=zh wh;have WY:=zh wy;have RWH:=zh rwh;have RWY:=zh rwy;have HWF:=zh hwf;have HFW:=zh hfw;have YWF:=zh ywf;have YFW:=zh yfw;have RNW:=zh rnw;have LIVE:=zh live;have BK:=zh hbk;have OKI:=zh hok;have WI:=zh hw0;have NI:=zh hn0;have RO:=zh ro;have RS0:=zh rs;have ZS0:=zh zs;have CS:=zh cs;have CO:=zh co;have YS:=zh ys;have ZSS:=zh zss;have ZKS:=zh zks;have KS:=zh kc;have KO:=zh kone;have BK1:=zh bk1;have CVK:=zh cvk;have ALS:=zh alS;have ALR:=zh alR;have HTN:=zh ht;have HNT:=zh hnt;have HP:=zh hp
 clear fr pg ld wh wy rwh rwy hwf hfw ywf yfw rnw live hbk hok hw0 hn0 ro rs zs cs co ys zss zks kc kone bk1 cvk alS alR ht hnt hp hit hN hI hM hZ hC hYs hKC hZS hZK hWT hYT hroot hrw hP hlen hPe hkey hkb hk32 hbz hs hT hf hpl hp0
 go_enter Tryz.func3,Tryz.ntmps3
 go_wp2_with fail
 refine (FR.out).mono ?_
 rintro e w1 ⟨rfl,hw1⟩
 have hw2:=hw1.symm
 subst hw2
 clear hw1
 have BK0:Hid (Below w.heap.size w (w.alloc (.cells KC 26))):=zh ((Below.refl _ _).alloc (Nat.le_refl _) _)
 have KK:=zh (at_new w KC 26)
 go_upto_region 4 with (first
  | (refine wpList_conv zr 3 5 _ _ (.int .u8 (kb.toNat:Int)) zr zr (fun wx=>CVK.out wx) ?_)
  | (refine Mem.wpList_build zr 26 _ #[(0,.int .u8 (kb.toNat:Int))] (.agg KC) zr (by simp [Act.eval,Act.put]) BK1.out ?_)
  | (refine wpList_store_new zr 26 _ _ zr zr KC _ _ zr zr (by rw [KS.out];kernel_rfl) (by rw [KS.out,ZKS.out]) KO.out ?_))
 clear hxk
 obtain ⟨sk,hsk⟩:∃ s,s=w.heap.size:=⟨_,rfl⟩
 rw [←hsk] at KK ⊢
 have HSK:=zh hsk
 clear hsk
 generalize w.alloc (.cells KC 26)=wk at *
 go_cut [8,9,10,11] (fun x y z u wx=>∃ (b:Nat) (F:Foot) (a9 a10:Nat),x=rq b∧y=.pointer (some ⟨a9,0,none⟩)∧z=.pointer (some ⟨a10,0,none⟩)∧u=.bool true∧PSt F b wx I∧(∀ k,F k→wk.heap.size≤k∧k≠a9∧k≠a10)∧At wx a9 C 29∧At wx a10 M 32∧Below wk.heap.size wk wx)
 case first=>
  have D0:Hid (Below wk.heap.size wk wk.drew):=zh (Below.refl _ _).drew
  refine wp_region_plan_in (fun y=>Below wk.heap.size wk y) (.take 0 (.take 1 (.three 2 9 10 (.three 3 9 10 (.take 4 (.take 5 (.take 6 (.take 7 (.take 8 (.two 9 10 (.sole 10 (.take 11 (.sole 12 (.sole 13 (.take 14 .done))))) (.sole 9 (.take 11 (.sole 12 (.sole 13 (.take 14 .done))))))))))) (.two 3 10 (.take 4 (.take 5 (.take 6 (.take 7 (.take 8 (.sole 10 (.take 11 (.sole 12 (.sole 13 (.take 14 .done)))))))))) (.sole 3 (.take 4 (.take 5 (.take 6 (.take 7 (.take 8 (.take 11 (.sole 12 (.sole 13 (.take 14 .done))))))))))) (.two 3 9 (.take 4 (.take 5 (.take 6 (.take 7 (.take 8 (.sole 9 (.take 11 (.sole 12 (.sole 13 (.take 14 .done)))))))))) (.sole 3 (.take 4 (.take 5 (.take 6 (.take 7 (.take 8 (.take 11 (.sole 12 (.sole 13 (.take 14 .done)))))))))))) (.two 2 10 (.two 3 10 (.take 4 (.take 5 (.take 6 (.take 7 (.take 8 (.sole 10 (.take 11 (.sole 12 (.sole 13 (.take 14 .done)))))))))) (.sole 3 (.take 4 (.take 5 (.take 6 (.take 7 (.take 8 (.take 11 (.sole 12 (.sole 13 (.take 14 .done))))))))))) (.sole 2 (.sole 3 (.take 4 (.take 5 (.take 6 (.take 7 (.take 8 (.take 11 (.sole 12 (.sole 13 (.take 14 .done)))))))))))) (.two 2 9 (.two 3 9 (.take 4 (.take 5 (.take 6 (.take 7 (.take 8 (.sole 9 (.take 11 (.sole 12 (.sole 13 (.take 14 .done)))))))))) (.sole 3 (.take 4 (.take 5 (.take 6 (.take 7 (.take 8 (.take 11 (.sole 12 (.sole 13 (.take 14 .done))))))))))) (.sole 2 (.sole 3 (.take 4 (.take 5 (.take 6 (.take 7 (.take 8 (.take 11 (.sole 12 (.sole 13 (.take 14 .done))))))))))))))) (by kernel_rfl) (by kernel_rfl) (by kernel_rfl) D0.out ?_
  refine plan_row 26 _ sk _ KC 26 zr zr zr ze (fun w' hw'=>KK.out.below hw' KK.out.lt) Tryz.underlying26 zr (by rw [KS.out];kernel_rfl) ?_
  (simp only [Mem.zp,Mem.pb,Mem.pc])
  (first | refine Mem.pm1 ?_ | refine Mem.pm2 ?_ | refine Mem.pt ?_ | refine Mem.pf ?_)
  (simp only [Mem.zp,Mem.pb,Mem.pc])
  refine plan_three ?_ ?_ ?_
  ·skip
   refine plan_call 7 _ _ _ (by kernel_rfl) zr zr zr (by first | exact Mem.ev_none _ | (simp only [List.map_toArray,List.map_cons,List.map_nil,Mem.ev_tmp,List.getD_cons_succ,List.getD_cons_zero] <;> rfl)) ?_
   refine (PGG.out _ (BK0.out.trans (D0.out.mono BK0.out.size))).mono ?_
   rintro e x1 ⟨vp,rfl,hs3,hb⟩
   have Dx1:Hid (Below wk.heap.size wk x1):=zh (D0.out.trans (hb.mono D0.out.size))
   have Sx1:=zh hs3
   clear hs3 hb
   refine ⟨_,rfl,Dx1.out,?_⟩
   (simp only [Mem.zp,Mem.pb,Mem.pc])
   refine plan_three ?_ ?_ ?_
   ·skip
    refine plan_call 6 _ _ _ (by kernel_rfl) zr zr zr (by first | exact Mem.ev_none _ | (simp only [List.map_toArray,List.map_cons,List.map_nil,Mem.ev_tmp,List.getD_cons_succ,List.getD_cons_zero] <;> rfl)) ?_
    refine (LD.out _ _ (BK0.out.trans (Dx1.out.mono BK0.out.size)) Sx1.out).mono ?_
    rintro e x2 ⟨b,F,rfl,hp4,hF4,hb⟩
    have FK:Hid (∀ k,F k→wk.heap.size≤k):=zh (fun k h=>Nat.le_trans Dx1.out.size (hF4 k h))
    have Dx2:Hid (Below wk.heap.size wk x2):=zh (Dx1.out.trans (hb.mono Dx1.out.size))
    have Px2:=zh hp4
    clear hp4 hF4 hb
    refine ⟨_,rfl,Dx2.out,?_⟩
    (simp only [Mem.zp,Mem.pb,Mem.pc])
    (first | refine Mem.pm1 ?_ | refine Mem.pm2 ?_ | refine Mem.pt ?_ | refine Mem.pf ?_)
    (simp only [Mem.zp,Mem.pb,Mem.pc])
    refine plan_extract _ 0 _ (rq b) zr zr zr ze zr ?_
    (simp only [Mem.zp,Mem.pb,Mem.pc])
    refine plan_extract _ 1 _ (.agg C) zr zr zr ze zr ?_
    (simp only [Mem.zp,Mem.pb,Mem.pc])
    refine plan_extract _ 2 _ (.agg M) zr zr zr ze zr ?_
    (simp only [Mem.zp,Mem.pb,Mem.pc])
    refine plan_extract _ 3 _ (.bool true) zr zr zr ze zr ?_
    (simp only [Mem.zp,Mem.pb,Mem.pc])
    refine plan_two ?_ ?_
    ·skip
     refine plan_alloc_any _ Y zr zr zr ALS.out (fun W' h=>h _ _ Dx2.out Dx2.out.size) ?_
     intro a9 x3 ha hge _ hk
     have hb:=hk _ _ (Below.refl _ _) (Nat.le_refl _)
     have Na9:Hid (∀ k,F k→k≠a9):=zh (fun k h=>by have h1:=pst_lt Px2.out k h;omega)
     have GEa9:Hid (wk.heap.size≤a9):=zh (Nat.le_trans Dx2.out.size hge)
     have Dx3:Hid (Below wk.heap.size wk x3):=zh (Dx2.out.trans (hb.mono Dx2.out.size))
     have Px3:=zh (pst_below Px2.out hb)
     have A9x3:=zh ha
     clear ha hge hk hb
     (simp only [Mem.zp,Mem.pb,Mem.pc])
     refine plan_alloc_any _ Z zr zr zr ALR.out (fun W' h=>h _ _ Dx3.out Dx3.out.size) ?_
     intro a10 x4 ha hge _ hk
     have hb:=hk _ _ (Below.refl _ _) (Nat.le_refl _)
     have Na10:Hid (∀ k,F k→k≠a10):=zh (fun k h=>by have h1:=pst_lt Px3.out k h;omega)
     have NE:Hid (a9≠a10):=zh (by have h1:=A9x3.out.lt;omega)
     have GEa10:Hid (wk.heap.size≤a10):=zh (Nat.le_trans Dx3.out.size hge)
     have Dx4:Hid (Below wk.heap.size wk x4):=zh (Dx3.out.trans (hb.mono Dx3.out.size))
     have A9x4:=zh (A9x3.out.below hb A9x3.out.lt)
     have Px4:=zh (pst_below Px3.out hb)
     have A10x4:=zh ha
     clear ha hge hk hb
     (simp only [Mem.zp,Mem.pb,Mem.pc])
     (first | refine Mem.pm1 ?_ | refine Mem.pm2 ?_ | refine Mem.pt ?_ | refine Mem.pf ?_)
     (simp only [Mem.zp,Mem.pb,Mem.pc])
     refine plan_store _ _ _ a9 C Y 29 zr zr zr zr ze ze (by rw [CS.out];exact infoPS) A9x4.out (by rw [CS.out,YS.out]) CO.out (below_row Dx4.out GEa9.out C) ?_
     refine plan_store _ _ _ a10 M Z 32 zr zr zr zr ze ze (by rw [RS0.out];exact infoRfP) (A10x4.out.row_other C (fun h=>NE.out h.symm)) (by rw [RS0.out,ZS0.out]) RO.out (below_row (below_row Dx4.out GEa9.out C) GEa10.out M) ?_
     (first | refine Mem.pm1 ?_ | refine Mem.pm2 ?_ | refine Mem.pt ?_ | refine Mem.pf ?_)
     (simp only [Mem.zp,Mem.pb,Mem.pc])
     refine plan_nil ?_
     go_wp2_with fail
     go_meet
     refine ⟨b,F,a9,a10,rfl,rfl,rfl,rfl,?_,fun k h=>⟨FK.out k h,Na9.out k h,Na10.out k h⟩,(A9x4.out.row C).row_other M NE.out,(A10x4.out.row_other C (fun h=>NE.out h.symm)).row M,below_row (below_row Dx4.out GEa9.out C) GEa10.out M⟩
     refine pst_keep Px4.out (by rw [setRow_size,setRow_size];exact Nat.le_refl _) fun k hk _=>?_
     rw [setRow_other _ _ _ _ (Na10.out k hk),setRow_other _ _ _ _ (Na9.out k hk)]
    ·skip
     refine plan_alloc_any _ Z zr zr zr ALR.out (fun W' h=>h _ _ Dx2.out Dx2.out.size) ?_
     intro a10 x5 ha hge _ hk
     have hb:=hk _ _ (Below.refl _ _) (Nat.le_refl _)
     have Na10:Hid (∀ k,F k→k≠a10):=zh (fun k h=>by have h1:=pst_lt Px2.out k h;omega)
     have GEa10:Hid (wk.heap.size≤a10):=zh (Nat.le_trans Dx2.out.size hge)
     have Dx5:Hid (Below wk.heap.size wk x5):=zh (Dx2.out.trans (hb.mono Dx2.out.size))
     have Px5:=zh (pst_below Px2.out hb)
     have A10x5:=zh ha
     clear ha hge hk hb
     (simp only [Mem.zp,Mem.pb,Mem.pc])
     refine plan_alloc_any _ Y zr zr zr ALS.out (fun W' h=>h _ _ Dx5.out Dx5.out.size) ?_
     intro a9 x6 ha hge _ hk
     have hb:=hk _ _ (Below.refl _ _) (Nat.le_refl _)
     have Na9:Hid (∀ k,F k→k≠a9):=zh (fun k h=>by have h1:=pst_lt Px5.out k h;omega)
     have NE:Hid (a9≠a10):=zh (by have h1:=A10x5.out.lt;omega)
     have GEa9:Hid (wk.heap.size≤a9):=zh (Nat.le_trans Dx5.out.size hge)
     have Dx6:Hid (Below wk.heap.size wk x6):=zh (Dx5.out.trans (hb.mono Dx5.out.size))
     have A10x6:=zh (A10x5.out.below hb A10x5.out.lt)
     have Px6:=zh (pst_below Px5.out hb)
     have A9x6:=zh ha
     clear ha hge hk hb
     (simp only [Mem.zp,Mem.pb,Mem.pc])
     (first | refine Mem.pm1 ?_ | refine Mem.pm2 ?_ | refine Mem.pt ?_ | refine Mem.pf ?_)
     (simp only [Mem.zp,Mem.pb,Mem.pc])
     refine plan_store _ _ _ a9 C Y 29 zr zr zr zr ze ze (by rw [CS.out];exact infoPS) A9x6.out (by rw [CS.out,YS.out]) CO.out (below_row Dx6.out GEa9.out C) ?_
     refine plan_store _ _ _ a10 M Z 32 zr zr zr zr ze ze (by rw [RS0.out];exact infoRfP) (A10x6.out.row_other C (fun h=>NE.out h.symm)) (by rw [RS0.out,ZS0.out]) RO.out (below_row (below_row Dx6.out GEa9.out C) GEa10.out M) ?_
     (first | refine Mem.pm1 ?_ | refine Mem.pm2 ?_ | refine Mem.pt ?_ | refine Mem.pf ?_)
     (simp only [Mem.zp,Mem.pb,Mem.pc])
     refine plan_nil ?_
     go_wp2_with fail
     go_meet
     refine ⟨b,F,a9,a10,rfl,rfl,rfl,rfl,?_,fun k h=>⟨FK.out k h,Na9.out k h,Na10.out k h⟩,(A9x6.out.row C).row_other M NE.out,(A10x6.out.row_other C (fun h=>NE.out h.symm)).row M,below_row (below_row Dx6.out GEa9.out C) GEa10.out M⟩
     refine pst_keep Px6.out (by rw [setRow_size,setRow_size];exact Nat.le_refl _) fun k hk _=>?_
     rw [setRow_other _ _ _ _ (Na10.out k hk),setRow_other _ _ _ _ (Na9.out k hk)]
   ·skip
    refine plan_alloc_any _ Y zr zr zr ALS.out (fun W' h=>h _ _ Dx1.out Dx1.out.size) ?_
    intro a9 x7 ha hge _ hk
    have hb:=hk _ _ (Below.refl _ _) (Nat.le_refl _)
    have GEa9:Hid (wk.heap.size≤a9):=zh (Nat.le_trans Dx1.out.size hge)
    have Dx7:Hid (Below wk.heap.size wk x7):=zh (Dx1.out.trans (hb.mono Dx1.out.size))
    have Sx7:=zh (Sx1.out.below hb)
    have A9x7:=zh ha
    clear ha hge hk hb
    (simp only [Mem.zp,Mem.pb,Mem.pc])
    refine plan_two ?_ ?_
    ·skip
     refine plan_call 6 _ _ _ (by kernel_rfl) zr zr zr (by first | exact Mem.ev_none _ | (simp only [List.map_toArray,List.map_cons,List.map_nil,Mem.ev_tmp,List.getD_cons_succ,List.getD_cons_zero] <;> rfl)) ?_
     refine (LD.out _ _ (BK0.out.trans (Dx7.out.mono BK0.out.size)) Sx7.out).mono ?_
     rintro e x8 ⟨b,F,rfl,hp4,hF4,hb⟩
     have FK:Hid (∀ k,F k→wk.heap.size≤k):=zh (fun k h=>Nat.le_trans Dx7.out.size (hF4 k h))
     have Na9:Hid (∀ k,F k→k≠a9):=zh (fun k h=>by have h1:=hF4 k h;have h2:=A9x7.out.lt;omega)
     have Dx8:Hid (Below wk.heap.size wk x8):=zh (Dx7.out.trans (hb.mono Dx7.out.size))
     have A9x8:=zh (A9x7.out.below hb A9x7.out.lt)
     have Px8:=zh hp4
     clear hp4 hF4 hb
     refine ⟨_,rfl,Dx8.out,?_⟩
     (simp only [Mem.zp,Mem.pb,Mem.pc])
     (first | refine Mem.pm1 ?_ | refine Mem.pm2 ?_ | refine Mem.pt ?_ | refine Mem.pf ?_)
     (simp only [Mem.zp,Mem.pb,Mem.pc])
     refine plan_extract _ 0 _ (rq b) zr zr zr ze zr ?_
     (simp only [Mem.zp,Mem.pb,Mem.pc])
     refine plan_extract _ 1 _ (.agg C) zr zr zr ze zr ?_
     (simp only [Mem.zp,Mem.pb,Mem.pc])
     refine plan_extract _ 2 _ (.agg M) zr zr zr ze zr ?_
     (simp only [Mem.zp,Mem.pb,Mem.pc])
     refine plan_extract _ 3 _ (.bool true) zr zr zr ze zr ?_
     (simp only [Mem.zp,Mem.pb,Mem.pc])
     refine plan_alloc_any _ Z zr zr zr ALR.out (fun W' h=>h _ _ Dx8.out Dx8.out.size) ?_
     intro a10 x9 ha hge _ hk
     have hb:=hk _ _ (Below.refl _ _) (Nat.le_refl _)
     have Na10:Hid (∀ k,F k→k≠a10):=zh (fun k h=>by have h1:=pst_lt Px8.out k h;omega)
     have NE:Hid (a9≠a10):=zh (by have h1:=A9x8.out.lt;omega)
     have GEa10:Hid (wk.heap.size≤a10):=zh (Nat.le_trans Dx8.out.size hge)
     have Dx9:Hid (Below wk.heap.size wk x9):=zh (Dx8.out.trans (hb.mono Dx8.out.size))
     have A9x9:=zh (A9x8.out.below hb A9x8.out.lt)
     have Px9:=zh (pst_below Px8.out hb)
     have A10x9:=zh ha
     clear ha hge hk hb
     (simp only [Mem.zp,Mem.pb,Mem.pc])
     (first | refine Mem.pm1 ?_ | refine Mem.pm2 ?_ | refine Mem.pt ?_ | refine Mem.pf ?_)
     (simp only [Mem.zp,Mem.pb,Mem.pc])
     refine plan_store _ _ _ a9 C Y 29 zr zr zr zr ze ze (by rw [CS.out];exact infoPS) A9x9.out (by rw [CS.out,YS.out]) CO.out (below_row Dx9.out GEa9.out C) ?_
     refine plan_store _ _ _ a10 M Z 32 zr zr zr zr ze ze (by rw [RS0.out];exact infoRfP) (A10x9.out.row_other C (fun h=>NE.out h.symm)) (by rw [RS0.out,ZS0.out]) RO.out (below_row (below_row Dx9.out GEa9.out C) GEa10.out M) ?_
     (first | refine Mem.pm1 ?_ | refine Mem.pm2 ?_ | refine Mem.pt ?_ | refine Mem.pf ?_)
     (simp only [Mem.zp,Mem.pb,Mem.pc])
     refine plan_nil ?_
     go_wp2_with fail
     go_meet
     refine ⟨b,F,a9,a10,rfl,rfl,rfl,rfl,?_,fun k h=>⟨FK.out k h,Na9.out k h,Na10.out k h⟩,(A9x9.out.row C).row_other M NE.out,(A10x9.out.row_other C (fun h=>NE.out h.symm)).row M,below_row (below_row Dx9.out GEa9.out C) GEa10.out M⟩
     refine pst_keep Px9.out (by rw [setRow_size,setRow_size];exact Nat.le_refl _) fun k hk _=>?_
     rw [setRow_other _ _ _ _ (Na10.out k hk),setRow_other _ _ _ _ (Na9.out k hk)]
    ·skip
     refine plan_alloc_any _ Z zr zr zr ALR.out (fun W' h=>h _ _ Dx7.out Dx7.out.size) ?_
     intro a10 x10 ha hge _ hk
     have hb:=hk _ _ (Below.refl _ _) (Nat.le_refl _)
     have NE:Hid (a9≠a10):=zh (by have h1:=A9x7.out.lt;omega)
     have GEa10:Hid (wk.heap.size≤a10):=zh (Nat.le_trans Dx7.out.size hge)
     have Dx10:Hid (Below wk.heap.size wk x10):=zh (Dx7.out.trans (hb.mono Dx7.out.size))
     have A9x10:=zh (A9x7.out.below hb A9x7.out.lt)
     have Sx10:=zh (Sx7.out.below hb)
     have A10x10:=zh ha
     clear ha hge hk hb
     (simp only [Mem.zp,Mem.pb,Mem.pc])
     refine plan_call 6 _ _ _ (by kernel_rfl) zr zr zr (by first | exact Mem.ev_none _ | (simp only [List.map_toArray,List.map_cons,List.map_nil,Mem.ev_tmp,List.getD_cons_succ,List.getD_cons_zero] <;> rfl)) ?_
     refine (LD.out _ _ (BK0.out.trans (Dx10.out.mono BK0.out.size)) Sx10.out).mono ?_
     rintro e x11 ⟨b,F,rfl,hp4,hF4,hb⟩
     have FK:Hid (∀ k,F k→wk.heap.size≤k):=zh (fun k h=>Nat.le_trans Dx10.out.size (hF4 k h))
     have Na9:Hid (∀ k,F k→k≠a9):=zh (fun k h=>by have h1:=hF4 k h;have h2:=A9x10.out.lt;omega)
     have Na10:Hid (∀ k,F k→k≠a10):=zh (fun k h=>by have h1:=hF4 k h;have h2:=A10x10.out.lt;omega)
     have Dx11:Hid (Below wk.heap.size wk x11):=zh (Dx10.out.trans (hb.mono Dx10.out.size))
     have A9x11:=zh (A9x10.out.below hb A9x10.out.lt)
     have A10x11:=zh (A10x10.out.below hb A10x10.out.lt)
     have Px11:=zh hp4
     clear hp4 hF4 hb
     refine ⟨_,rfl,Dx11.out,?_⟩
     (simp only [Mem.zp,Mem.pb,Mem.pc])
     (first | refine Mem.pm1 ?_ | refine Mem.pm2 ?_ | refine Mem.pt ?_ | refine Mem.pf ?_)
     (simp only [Mem.zp,Mem.pb,Mem.pc])
     refine plan_extract _ 0 _ (rq b) zr zr zr ze zr ?_
     (simp only [Mem.zp,Mem.pb,Mem.pc])
     refine plan_extract _ 1 _ (.agg C) zr zr zr ze zr ?_
     (simp only [Mem.zp,Mem.pb,Mem.pc])
     refine plan_extract _ 2 _ (.agg M) zr zr zr ze zr ?_
     (simp only [Mem.zp,Mem.pb,Mem.pc])
     refine plan_extract _ 3 _ (.bool true) zr zr zr ze zr ?_
     (simp only [Mem.zp,Mem.pb,Mem.pc])
     (first | refine Mem.pm1 ?_ | refine Mem.pm2 ?_ | refine Mem.pt ?_ | refine Mem.pf ?_)
     (simp only [Mem.zp,Mem.pb,Mem.pc])
     refine plan_store _ _ _ a9 C Y 29 zr zr zr zr ze ze (by rw [CS.out];exact infoPS) A9x11.out (by rw [CS.out,YS.out]) CO.out (below_row Dx11.out GEa9.out C) ?_
     refine plan_store _ _ _ a10 M Z 32 zr zr zr zr ze ze (by rw [RS0.out];exact infoRfP) (A10x11.out.row_other C (fun h=>NE.out h.symm)) (by rw [RS0.out,ZS0.out]) RO.out (below_row (below_row Dx11.out GEa9.out C) GEa10.out M) ?_
     (first | refine Mem.pm1 ?_ | refine Mem.pm2 ?_ | refine Mem.pt ?_ | refine Mem.pf ?_)
     (simp only [Mem.zp,Mem.pb,Mem.pc])
     refine plan_nil ?_
     go_wp2_with fail
     go_meet
     refine ⟨b,F,a9,a10,rfl,rfl,rfl,rfl,?_,fun k h=>⟨FK.out k h,Na9.out k h,Na10.out k h⟩,(A9x11.out.row C).row_other M NE.out,(A10x11.out.row_other C (fun h=>NE.out h.symm)).row M,below_row (below_row Dx11.out GEa9.out C) GEa10.out M⟩
     refine pst_keep Px11.out (by rw [setRow_size,setRow_size];exact Nat.le_refl _) fun k hk _=>?_
     rw [setRow_other _ _ _ _ (Na10.out k hk),setRow_other _ _ _ _ (Na9.out k hk)]
   ·skip
    refine plan_alloc_any _ Z zr zr zr ALR.out (fun W' h=>h _ _ Dx1.out Dx1.out.size) ?_
    intro a10 x12 ha hge _ hk
    have hb:=hk _ _ (Below.refl _ _) (Nat.le_refl _)
    have GEa10:Hid (wk.heap.size≤a10):=zh (Nat.le_trans Dx1.out.size hge)
    have Dx12:Hid (Below wk.heap.size wk x12):=zh (Dx1.out.trans (hb.mono Dx1.out.size))
    have Sx12:=zh (Sx1.out.below hb)
    have A10x12:=zh ha
    clear ha hge hk hb
    (simp only [Mem.zp,Mem.pb,Mem.pc])
    refine plan_two ?_ ?_
    ·skip
     refine plan_call 6 _ _ _ (by kernel_rfl) zr zr zr (by first | exact Mem.ev_none _ | (simp only [List.map_toArray,List.map_cons,List.map_nil,Mem.ev_tmp,List.getD_cons_succ,List.getD_cons_zero] <;> rfl)) ?_
     refine (LD.out _ _ (BK0.out.trans (Dx12.out.mono BK0.out.size)) Sx12.out).mono ?_
     rintro e x13 ⟨b,F,rfl,hp4,hF4,hb⟩
     have FK:Hid (∀ k,F k→wk.heap.size≤k):=zh (fun k h=>Nat.le_trans Dx12.out.size (hF4 k h))
     have Na10:Hid (∀ k,F k→k≠a10):=zh (fun k h=>by have h1:=hF4 k h;have h2:=A10x12.out.lt;omega)
     have Dx13:Hid (Below wk.heap.size wk x13):=zh (Dx12.out.trans (hb.mono Dx12.out.size))
     have A10x13:=zh (A10x12.out.below hb A10x12.out.lt)
     have Px13:=zh hp4
     clear hp4 hF4 hb
     refine ⟨_,rfl,Dx13.out,?_⟩
     (simp only [Mem.zp,Mem.pb,Mem.pc])
     (first | refine Mem.pm1 ?_ | refine Mem.pm2 ?_ | refine Mem.pt ?_ | refine Mem.pf ?_)
     (simp only [Mem.zp,Mem.pb,Mem.pc])
     refine plan_extract _ 0 _ (rq b) zr zr zr ze zr ?_
     (simp only [Mem.zp,Mem.pb,Mem.pc])
     refine plan_extract _ 1 _ (.agg C) zr zr zr ze zr ?_
     (simp only [Mem.zp,Mem.pb,Mem.pc])
     refine plan_extract _ 2 _ (.agg M) zr zr zr ze zr ?_
     (simp only [Mem.zp,Mem.pb,Mem.pc])
     refine plan_extract _ 3 _ (.bool true) zr zr zr ze zr ?_
     (simp only [Mem.zp,Mem.pb,Mem.pc])
     refine plan_alloc_any _ Y zr zr zr ALS.out (fun W' h=>h _ _ Dx13.out Dx13.out.size) ?_
     intro a9 x14 ha hge _ hk
     have hb:=hk _ _ (Below.refl _ _) (Nat.le_refl _)
     have Na9:Hid (∀ k,F k→k≠a9):=zh (fun k h=>by have h1:=pst_lt Px13.out k h;omega)
     have NE:Hid (a9≠a10):=zh (by have h1:=A10x13.out.lt;omega)
     have GEa9:Hid (wk.heap.size≤a9):=zh (Nat.le_trans Dx13.out.size hge)
     have Dx14:Hid (Below wk.heap.size wk x14):=zh (Dx13.out.trans (hb.mono Dx13.out.size))
     have A10x14:=zh (A10x13.out.below hb A10x13.out.lt)
     have Px14:=zh (pst_below Px13.out hb)
     have A9x14:=zh ha
     clear ha hge hk hb
     (simp only [Mem.zp,Mem.pb,Mem.pc])
     (first | refine Mem.pm1 ?_ | refine Mem.pm2 ?_ | refine Mem.pt ?_ | refine Mem.pf ?_)
     (simp only [Mem.zp,Mem.pb,Mem.pc])
     refine plan_store _ _ _ a9 C Y 29 zr zr zr zr ze ze (by rw [CS.out];exact infoPS) A9x14.out (by rw [CS.out,YS.out]) CO.out (below_row Dx14.out GEa9.out C) ?_
     refine plan_store _ _ _ a10 M Z 32 zr zr zr zr ze ze (by rw [RS0.out];exact infoRfP) (A10x14.out.row_other C (fun h=>NE.out h.symm)) (by rw [RS0.out,ZS0.out]) RO.out (below_row (below_row Dx14.out GEa9.out C) GEa10.out M) ?_
     (first | refine Mem.pm1 ?_ | refine Mem.pm2 ?_ | refine Mem.pt ?_ | refine Mem.pf ?_)
     (simp only [Mem.zp,Mem.pb,Mem.pc])
     refine plan_nil ?_
     go_wp2_with fail
     go_meet
     refine ⟨b,F,a9,a10,rfl,rfl,rfl,rfl,?_,fun k h=>⟨FK.out k h,Na9.out k h,Na10.out k h⟩,(A9x14.out.row C).row_other M NE.out,(A10x14.out.row_other C (fun h=>NE.out h.symm)).row M,below_row (below_row Dx14.out GEa9.out C) GEa10.out M⟩
     refine pst_keep Px14.out (by rw [setRow_size,setRow_size];exact Nat.le_refl _) fun k hk _=>?_
     rw [setRow_other _ _ _ _ (Na10.out k hk),setRow_other _ _ _ _ (Na9.out k hk)]
    ·skip
     refine plan_alloc_any _ Y zr zr zr ALS.out (fun W' h=>h _ _ Dx12.out Dx12.out.size) ?_
     intro a9 x15 ha hge _ hk
     have hb:=hk _ _ (Below.refl _ _) (Nat.le_refl _)
     have NE:Hid (a9≠a10):=zh (by have h1:=A10x12.out.lt;omega)
     have GEa9:Hid (wk.heap.size≤a9):=zh (Nat.le_trans Dx12.out.size hge)
     have Dx15:Hid (Below wk.heap.size wk x15):=zh (Dx12.out.trans (hb.mono Dx12.out.size))
     have A10x15:=zh (A10x12.out.below hb A10x12.out.lt)
     have Sx15:=zh (Sx12.out.below hb)
     have A9x15:=zh ha
     clear ha hge hk hb
     (simp only [Mem.zp,Mem.pb,Mem.pc])
     refine plan_call 6 _ _ _ (by kernel_rfl) zr zr zr (by first | exact Mem.ev_none _ | (simp only [List.map_toArray,List.map_cons,List.map_nil,Mem.ev_tmp,List.getD_cons_succ,List.getD_cons_zero] <;> rfl)) ?_
     refine (LD.out _ _ (BK0.out.trans (Dx15.out.mono BK0.out.size)) Sx15.out).mono ?_
     rintro e x16 ⟨b,F,rfl,hp4,hF4,hb⟩
     have FK:Hid (∀ k,F k→wk.heap.size≤k):=zh (fun k h=>Nat.le_trans Dx15.out.size (hF4 k h))
     have Na9:Hid (∀ k,F k→k≠a9):=zh (fun k h=>by have h1:=hF4 k h;have h2:=A9x15.out.lt;omega)
     have Na10:Hid (∀ k,F k→k≠a10):=zh (fun k h=>by have h1:=hF4 k h;have h2:=A10x15.out.lt;omega)
     have Dx16:Hid (Below wk.heap.size wk x16):=zh (Dx15.out.trans (hb.mono Dx15.out.size))
     have A9x16:=zh (A9x15.out.below hb A9x15.out.lt)
     have A10x16:=zh (A10x15.out.below hb A10x15.out.lt)
     have Px16:=zh hp4
     clear hp4 hF4 hb
     refine ⟨_,rfl,Dx16.out,?_⟩
     (simp only [Mem.zp,Mem.pb,Mem.pc])
     (first | refine Mem.pm1 ?_ | refine Mem.pm2 ?_ | refine Mem.pt ?_ | refine Mem.pf ?_)
     (simp only [Mem.zp,Mem.pb,Mem.pc])
     refine plan_extract _ 0 _ (rq b) zr zr zr ze zr ?_
     (simp only [Mem.zp,Mem.pb,Mem.pc])
     refine plan_extract _ 1 _ (.agg C) zr zr zr ze zr ?_
     (simp only [Mem.zp,Mem.pb,Mem.pc])
     refine plan_extract _ 2 _ (.agg M) zr zr zr ze zr ?_
     (simp only [Mem.zp,Mem.pb,Mem.pc])
     refine plan_extract _ 3 _ (.bool true) zr zr zr ze zr ?_
     (simp only [Mem.zp,Mem.pb,Mem.pc])
     (first | refine Mem.pm1 ?_ | refine Mem.pm2 ?_ | refine Mem.pt ?_ | refine Mem.pf ?_)
     (simp only [Mem.zp,Mem.pb,Mem.pc])
     refine plan_store _ _ _ a9 C Y 29 zr zr zr zr ze ze (by rw [CS.out];exact infoPS) A9x16.out (by rw [CS.out,YS.out]) CO.out (below_row Dx16.out GEa9.out C) ?_
     refine plan_store _ _ _ a10 M Z 32 zr zr zr zr ze ze (by rw [RS0.out];exact infoRfP) (A10x16.out.row_other C (fun h=>NE.out h.symm)) (by rw [RS0.out,ZS0.out]) RO.out (below_row (below_row Dx16.out GEa9.out C) GEa10.out M) ?_
     (first | refine Mem.pm1 ?_ | refine Mem.pm2 ?_ | refine Mem.pt ?_ | refine Mem.pf ?_)
     (simp only [Mem.zp,Mem.pb,Mem.pc])
     refine plan_nil ?_
     go_wp2_with fail
     go_meet
     refine ⟨b,F,a9,a10,rfl,rfl,rfl,rfl,?_,fun k h=>⟨FK.out k h,Na9.out k h,Na10.out k h⟩,(A9x16.out.row C).row_other M NE.out,(A10x16.out.row_other C (fun h=>NE.out h.symm)).row M,below_row (below_row Dx16.out GEa9.out C) GEa10.out M⟩
     refine pst_keep Px16.out (by rw [setRow_size,setRow_size];exact Nat.le_refl _) fun k hk _=>?_
     rw [setRow_other _ _ _ _ (Na10.out k hk),setRow_other _ _ _ _ (Na9.out k hk)]
  ·skip
   refine plan_alloc_any _ Y zr zr zr ALS.out (fun W' h=>h _ _ D0.out D0.out.size) ?_
   intro a9 x17 ha hge _ hk
   have hb:=hk _ _ (Below.refl _ _) (Nat.le_refl _)
   have GEa9:Hid (wk.heap.size≤a9):=zh (Nat.le_trans D0.out.size hge)
   have Dx17:Hid (Below wk.heap.size wk x17):=zh (D0.out.trans (hb.mono D0.out.size))
   have A9x17:=zh ha
   clear ha hge hk hb
   (simp only [Mem.zp,Mem.pb,Mem.pc])
   refine plan_two ?_ ?_
   ·skip
    refine plan_call 7 _ _ _ (by kernel_rfl) zr zr zr (by first | exact Mem.ev_none _ | (simp only [List.map_toArray,List.map_cons,List.map_nil,Mem.ev_tmp,List.getD_cons_succ,List.getD_cons_zero] <;> rfl)) ?_
    refine (PGG.out _ (BK0.out.trans (Dx17.out.mono BK0.out.size))).mono ?_
    rintro e x18 ⟨vp,rfl,hs3,hb⟩
    have Dx18:Hid (Below wk.heap.size wk x18):=zh (Dx17.out.trans (hb.mono Dx17.out.size))
    have A9x18:=zh (A9x17.out.below hb A9x17.out.lt)
    have Sx18:=zh hs3
    clear hs3 hb
    refine ⟨_,rfl,Dx18.out,?_⟩
    (simp only [Mem.zp,Mem.pb,Mem.pc])
    refine plan_two ?_ ?_
    ·skip
     refine plan_call 6 _ _ _ (by kernel_rfl) zr zr zr (by first | exact Mem.ev_none _ | (simp only [List.map_toArray,List.map_cons,List.map_nil,Mem.ev_tmp,List.getD_cons_succ,List.getD_cons_zero] <;> rfl)) ?_
     refine (LD.out _ _ (BK0.out.trans (Dx18.out.mono BK0.out.size)) Sx18.out).mono ?_
     rintro e x19 ⟨b,F,rfl,hp4,hF4,hb⟩
     have FK:Hid (∀ k,F k→wk.heap.size≤k):=zh (fun k h=>Nat.le_trans Dx18.out.size (hF4 k h))
     have Na9:Hid (∀ k,F k→k≠a9):=zh (fun k h=>by have h1:=hF4 k h;have h2:=A9x18.out.lt;omega)
     have Dx19:Hid (Below wk.heap.size wk x19):=zh (Dx18.out.trans (hb.mono Dx18.out.size))
     have A9x19:=zh (A9x18.out.below hb A9x18.out.lt)
     have Px19:=zh hp4
     clear hp4 hF4 hb
     refine ⟨_,rfl,Dx19.out,?_⟩
     (simp only [Mem.zp,Mem.pb,Mem.pc])
     (first | refine Mem.pm1 ?_ | refine Mem.pm2 ?_ | refine Mem.pt ?_ | refine Mem.pf ?_)
     (simp only [Mem.zp,Mem.pb,Mem.pc])
     refine plan_extract _ 0 _ (rq b) zr zr zr ze zr ?_
     (simp only [Mem.zp,Mem.pb,Mem.pc])
     refine plan_extract _ 1 _ (.agg C) zr zr zr ze zr ?_
     (simp only [Mem.zp,Mem.pb,Mem.pc])
     refine plan_extract _ 2 _ (.agg M) zr zr zr ze zr ?_
     (simp only [Mem.zp,Mem.pb,Mem.pc])
     refine plan_extract _ 3 _ (.bool true) zr zr zr ze zr ?_
     (simp only [Mem.zp,Mem.pb,Mem.pc])
     refine plan_alloc_any _ Z zr zr zr ALR.out (fun W' h=>h _ _ Dx19.out Dx19.out.size) ?_
     intro a10 x20 ha hge _ hk
     have hb:=hk _ _ (Below.refl _ _) (Nat.le_refl _)
     have Na10:Hid (∀ k,F k→k≠a10):=zh (fun k h=>by have h1:=pst_lt Px19.out k h;omega)
     have NE:Hid (a9≠a10):=zh (by have h1:=A9x19.out.lt;omega)
     have GEa10:Hid (wk.heap.size≤a10):=zh (Nat.le_trans Dx19.out.size hge)
     have Dx20:Hid (Below wk.heap.size wk x20):=zh (Dx19.out.trans (hb.mono Dx19.out.size))
     have A9x20:=zh (A9x19.out.below hb A9x19.out.lt)
     have Px20:=zh (pst_below Px19.out hb)
     have A10x20:=zh ha
     clear ha hge hk hb
     (simp only [Mem.zp,Mem.pb,Mem.pc])
     (first | refine Mem.pm1 ?_ | refine Mem.pm2 ?_ | refine Mem.pt ?_ | refine Mem.pf ?_)
     (simp only [Mem.zp,Mem.pb,Mem.pc])
     refine plan_store _ _ _ a9 C Y 29 zr zr zr zr ze ze (by rw [CS.out];exact infoPS) A9x20.out (by rw [CS.out,YS.out]) CO.out (below_row Dx20.out GEa9.out C) ?_
     refine plan_store _ _ _ a10 M Z 32 zr zr zr zr ze ze (by rw [RS0.out];exact infoRfP) (A10x20.out.row_other C (fun h=>NE.out h.symm)) (by rw [RS0.out,ZS0.out]) RO.out (below_row (below_row Dx20.out GEa9.out C) GEa10.out M) ?_
     (first | refine Mem.pm1 ?_ | refine Mem.pm2 ?_ | refine Mem.pt ?_ | refine Mem.pf ?_)
     (simp only [Mem.zp,Mem.pb,Mem.pc])
     refine plan_nil ?_
     go_wp2_with fail
     go_meet
     refine ⟨b,F,a9,a10,rfl,rfl,rfl,rfl,?_,fun k h=>⟨FK.out k h,Na9.out k h,Na10.out k h⟩,(A9x20.out.row C).row_other M NE.out,(A10x20.out.row_other C (fun h=>NE.out h.symm)).row M,below_row (below_row Dx20.out GEa9.out C) GEa10.out M⟩
     refine pst_keep Px20.out (by rw [setRow_size,setRow_size];exact Nat.le_refl _) fun k hk _=>?_
     rw [setRow_other _ _ _ _ (Na10.out k hk),setRow_other _ _ _ _ (Na9.out k hk)]
    ·skip
     refine plan_alloc_any _ Z zr zr zr ALR.out (fun W' h=>h _ _ Dx18.out Dx18.out.size) ?_
     intro a10 x21 ha hge _ hk
     have hb:=hk _ _ (Below.refl _ _) (Nat.le_refl _)
     have NE:Hid (a9≠a10):=zh (by have h1:=A9x18.out.lt;omega)
     have GEa10:Hid (wk.heap.size≤a10):=zh (Nat.le_trans Dx18.out.size hge)
     have Dx21:Hid (Below wk.heap.size wk x21):=zh (Dx18.out.trans (hb.mono Dx18.out.size))
     have A9x21:=zh (A9x18.out.below hb A9x18.out.lt)
     have Sx21:=zh (Sx18.out.below hb)
     have A10x21:=zh ha
     clear ha hge hk hb
     (simp only [Mem.zp,Mem.pb,Mem.pc])
     refine plan_call 6 _ _ _ (by kernel_rfl) zr zr zr (by first | exact Mem.ev_none _ | (simp only [List.map_toArray,List.map_cons,List.map_nil,Mem.ev_tmp,List.getD_cons_succ,List.getD_cons_zero] <;> rfl)) ?_
     refine (LD.out _ _ (BK0.out.trans (Dx21.out.mono BK0.out.size)) Sx21.out).mono ?_
     rintro e x22 ⟨b,F,rfl,hp4,hF4,hb⟩
     have FK:Hid (∀ k,F k→wk.heap.size≤k):=zh (fun k h=>Nat.le_trans Dx21.out.size (hF4 k h))
     have Na9:Hid (∀ k,F k→k≠a9):=zh (fun k h=>by have h1:=hF4 k h;have h2:=A9x21.out.lt;omega)
     have Na10:Hid (∀ k,F k→k≠a10):=zh (fun k h=>by have h1:=hF4 k h;have h2:=A10x21.out.lt;omega)
     have Dx22:Hid (Below wk.heap.size wk x22):=zh (Dx21.out.trans (hb.mono Dx21.out.size))
     have A9x22:=zh (A9x21.out.below hb A9x21.out.lt)
     have A10x22:=zh (A10x21.out.below hb A10x21.out.lt)
     have Px22:=zh hp4
     clear hp4 hF4 hb
     refine ⟨_,rfl,Dx22.out,?_⟩
     (simp only [Mem.zp,Mem.pb,Mem.pc])
     (first | refine Mem.pm1 ?_ | refine Mem.pm2 ?_ | refine Mem.pt ?_ | refine Mem.pf ?_)
     (simp only [Mem.zp,Mem.pb,Mem.pc])
     refine plan_extract _ 0 _ (rq b) zr zr zr ze zr ?_
     (simp only [Mem.zp,Mem.pb,Mem.pc])
     refine plan_extract _ 1 _ (.agg C) zr zr zr ze zr ?_
     (simp only [Mem.zp,Mem.pb,Mem.pc])
     refine plan_extract _ 2 _ (.agg M) zr zr zr ze zr ?_
     (simp only [Mem.zp,Mem.pb,Mem.pc])
     refine plan_extract _ 3 _ (.bool true) zr zr zr ze zr ?_
     (simp only [Mem.zp,Mem.pb,Mem.pc])
     (first | refine Mem.pm1 ?_ | refine Mem.pm2 ?_ | refine Mem.pt ?_ | refine Mem.pf ?_)
     (simp only [Mem.zp,Mem.pb,Mem.pc])
     refine plan_store _ _ _ a9 C Y 29 zr zr zr zr ze ze (by rw [CS.out];exact infoPS) A9x22.out (by rw [CS.out,YS.out]) CO.out (below_row Dx22.out GEa9.out C) ?_
     refine plan_store _ _ _ a10 M Z 32 zr zr zr zr ze ze (by rw [RS0.out];exact infoRfP) (A10x22.out.row_other C (fun h=>NE.out h.symm)) (by rw [RS0.out,ZS0.out]) RO.out (below_row (below_row Dx22.out GEa9.out C) GEa10.out M) ?_
     (first | refine Mem.pm1 ?_ | refine Mem.pm2 ?_ | refine Mem.pt ?_ | refine Mem.pf ?_)
     (simp only [Mem.zp,Mem.pb,Mem.pc])
     refine plan_nil ?_
     go_wp2_with fail
     go_meet
     refine ⟨b,F,a9,a10,rfl,rfl,rfl,rfl,?_,fun k h=>⟨FK.out k h,Na9.out k h,Na10.out k h⟩,(A9x22.out.row C).row_other M NE.out,(A10x22.out.row_other C (fun h=>NE.out h.symm)).row M,below_row (below_row Dx22.out GEa9.out C) GEa10.out M⟩
     refine pst_keep Px22.out (by rw [setRow_size,setRow_size];exact Nat.le_refl _) fun k hk _=>?_
     rw [setRow_other _ _ _ _ (Na10.out k hk),setRow_other _ _ _ _ (Na9.out k hk)]
   ·skip
    refine plan_alloc_any _ Z zr zr zr ALR.out (fun W' h=>h _ _ Dx17.out Dx17.out.size) ?_
    intro a10 x23 ha hge _ hk
    have hb:=hk _ _ (Below.refl _ _) (Nat.le_refl _)
    have NE:Hid (a9≠a10):=zh (by have h1:=A9x17.out.lt;omega)
    have GEa10:Hid (wk.heap.size≤a10):=zh (Nat.le_trans Dx17.out.size hge)
    have Dx23:Hid (Below wk.heap.size wk x23):=zh (Dx17.out.trans (hb.mono Dx17.out.size))
    have A9x23:=zh (A9x17.out.below hb A9x17.out.lt)
    have A10x23:=zh ha
    clear ha hge hk hb
    (simp only [Mem.zp,Mem.pb,Mem.pc])
    refine plan_call 7 _ _ _ (by kernel_rfl) zr zr zr (by first | exact Mem.ev_none _ | (simp only [List.map_toArray,List.map_cons,List.map_nil,Mem.ev_tmp,List.getD_cons_succ,List.getD_cons_zero] <;> rfl)) ?_
    refine (PGG.out _ (BK0.out.trans (Dx23.out.mono BK0.out.size))).mono ?_
    rintro e x24 ⟨vp,rfl,hs3,hb⟩
    have Dx24:Hid (Below wk.heap.size wk x24):=zh (Dx23.out.trans (hb.mono Dx23.out.size))
    have A9x24:=zh (A9x23.out.below hb A9x23.out.lt)
    have A10x24:=zh (A10x23.out.below hb A10x23.out.lt)
    have Sx24:=zh hs3
    clear hs3 hb
    refine ⟨_,rfl,Dx24.out,?_⟩
    (simp only [Mem.zp,Mem.pb,Mem.pc])
    refine plan_call 6 _ _ _ (by kernel_rfl) zr zr zr (by first | exact Mem.ev_none _ | (simp only [List.map_toArray,List.map_cons,List.map_nil,Mem.ev_tmp,List.getD_cons_succ,List.getD_cons_zero] <;> rfl)) ?_
    refine (LD.out _ _ (BK0.out.trans (Dx24.out.mono BK0.out.size)) Sx24.out).mono ?_
    rintro e x25 ⟨b,F,rfl,hp4,hF4,hb⟩
    have FK:Hid (∀ k,F k→wk.heap.size≤k):=zh (fun k h=>Nat.le_trans Dx24.out.size (hF4 k h))
    have Na9:Hid (∀ k,F k→k≠a9):=zh (fun k h=>by have h1:=hF4 k h;have h2:=A9x24.out.lt;omega)
    have Na10:Hid (∀ k,F k→k≠a10):=zh (fun k h=>by have h1:=hF4 k h;have h2:=A10x24.out.lt;omega)
    have Dx25:Hid (Below wk.heap.size wk x25):=zh (Dx24.out.trans (hb.mono Dx24.out.size))
    have A9x25:=zh (A9x24.out.below hb A9x24.out.lt)
    have A10x25:=zh (A10x24.out.below hb A10x24.out.lt)
    have Px25:=zh hp4
    clear hp4 hF4 hb
    refine ⟨_,rfl,Dx25.out,?_⟩
    (simp only [Mem.zp,Mem.pb,Mem.pc])
    (first | refine Mem.pm1 ?_ | refine Mem.pm2 ?_ | refine Mem.pt ?_ | refine Mem.pf ?_)
    (simp only [Mem.zp,Mem.pb,Mem.pc])
    refine plan_extract _ 0 _ (rq b) zr zr zr ze zr ?_
    (simp only [Mem.zp,Mem.pb,Mem.pc])
    refine plan_extract _ 1 _ (.agg C) zr zr zr ze zr ?_
    (simp only [Mem.zp,Mem.pb,Mem.pc])
    refine plan_extract _ 2 _ (.agg M) zr zr zr ze zr ?_
    (simp only [Mem.zp,Mem.pb,Mem.pc])
    refine plan_extract _ 3 _ (.bool true) zr zr zr ze zr ?_
    (simp only [Mem.zp,Mem.pb,Mem.pc])
    (first | refine Mem.pm1 ?_ | refine Mem.pm2 ?_ | refine Mem.pt ?_ | refine Mem.pf ?_)
    (simp only [Mem.zp,Mem.pb,Mem.pc])
    refine plan_store _ _ _ a9 C Y 29 zr zr zr zr ze ze (by rw [CS.out];exact infoPS) A9x25.out (by rw [CS.out,YS.out]) CO.out (below_row Dx25.out GEa9.out C) ?_
    refine plan_store _ _ _ a10 M Z 32 zr zr zr zr ze ze (by rw [RS0.out];exact infoRfP) (A10x25.out.row_other C (fun h=>NE.out h.symm)) (by rw [RS0.out,ZS0.out]) RO.out (below_row (below_row Dx25.out GEa9.out C) GEa10.out M) ?_
    (first | refine Mem.pm1 ?_ | refine Mem.pm2 ?_ | refine Mem.pt ?_ | refine Mem.pf ?_)
    (simp only [Mem.zp,Mem.pb,Mem.pc])
    refine plan_nil ?_
    go_wp2_with fail
    go_meet
    refine ⟨b,F,a9,a10,rfl,rfl,rfl,rfl,?_,fun k h=>⟨FK.out k h,Na9.out k h,Na10.out k h⟩,(A9x25.out.row C).row_other M NE.out,(A10x25.out.row_other C (fun h=>NE.out h.symm)).row M,below_row (below_row Dx25.out GEa9.out C) GEa10.out M⟩
    refine pst_keep Px25.out (by rw [setRow_size,setRow_size];exact Nat.le_refl _) fun k hk _=>?_
    rw [setRow_other _ _ _ _ (Na10.out k hk),setRow_other _ _ _ _ (Na9.out k hk)]
  ·skip
   refine plan_alloc_any _ Z zr zr zr ALR.out (fun W' h=>h _ _ D0.out D0.out.size) ?_
   intro a10 x26 ha hge _ hk
   have hb:=hk _ _ (Below.refl _ _) (Nat.le_refl _)
   have GEa10:Hid (wk.heap.size≤a10):=zh (Nat.le_trans D0.out.size hge)
   have Dx26:Hid (Below wk.heap.size wk x26):=zh (D0.out.trans (hb.mono D0.out.size))
   have A10x26:=zh ha
   clear ha hge hk hb
   (simp only [Mem.zp,Mem.pb,Mem.pc])
   refine plan_two ?_ ?_
   ·skip
    refine plan_call 7 _ _ _ (by kernel_rfl) zr zr zr (by first | exact Mem.ev_none _ | (simp only [List.map_toArray,List.map_cons,List.map_nil,Mem.ev_tmp,List.getD_cons_succ,List.getD_cons_zero] <;> rfl)) ?_
    refine (PGG.out _ (BK0.out.trans (Dx26.out.mono BK0.out.size))).mono ?_
    rintro e x27 ⟨vp,rfl,hs3,hb⟩
    have Dx27:Hid (Below wk.heap.size wk x27):=zh (Dx26.out.trans (hb.mono Dx26.out.size))
    have A10x27:=zh (A10x26.out.below hb A10x26.out.lt)
    have Sx27:=zh hs3
    clear hs3 hb
    refine ⟨_,rfl,Dx27.out,?_⟩
    (simp only [Mem.zp,Mem.pb,Mem.pc])
    refine plan_two ?_ ?_
    ·skip
     refine plan_call 6 _ _ _ (by kernel_rfl) zr zr zr (by first | exact Mem.ev_none _ | (simp only [List.map_toArray,List.map_cons,List.map_nil,Mem.ev_tmp,List.getD_cons_succ,List.getD_cons_zero] <;> rfl)) ?_
     refine (LD.out _ _ (BK0.out.trans (Dx27.out.mono BK0.out.size)) Sx27.out).mono ?_
     rintro e x28 ⟨b,F,rfl,hp4,hF4,hb⟩
     have FK:Hid (∀ k,F k→wk.heap.size≤k):=zh (fun k h=>Nat.le_trans Dx27.out.size (hF4 k h))
     have Na10:Hid (∀ k,F k→k≠a10):=zh (fun k h=>by have h1:=hF4 k h;have h2:=A10x27.out.lt;omega)
     have Dx28:Hid (Below wk.heap.size wk x28):=zh (Dx27.out.trans (hb.mono Dx27.out.size))
     have A10x28:=zh (A10x27.out.below hb A10x27.out.lt)
     have Px28:=zh hp4
     clear hp4 hF4 hb
     refine ⟨_,rfl,Dx28.out,?_⟩
     (simp only [Mem.zp,Mem.pb,Mem.pc])
     (first | refine Mem.pm1 ?_ | refine Mem.pm2 ?_ | refine Mem.pt ?_ | refine Mem.pf ?_)
     (simp only [Mem.zp,Mem.pb,Mem.pc])
     refine plan_extract _ 0 _ (rq b) zr zr zr ze zr ?_
     (simp only [Mem.zp,Mem.pb,Mem.pc])
     refine plan_extract _ 1 _ (.agg C) zr zr zr ze zr ?_
     (simp only [Mem.zp,Mem.pb,Mem.pc])
     refine plan_extract _ 2 _ (.agg M) zr zr zr ze zr ?_
     (simp only [Mem.zp,Mem.pb,Mem.pc])
     refine plan_extract _ 3 _ (.bool true) zr zr zr ze zr ?_
     (simp only [Mem.zp,Mem.pb,Mem.pc])
     refine plan_alloc_any _ Y zr zr zr ALS.out (fun W' h=>h _ _ Dx28.out Dx28.out.size) ?_
     intro a9 x29 ha hge _ hk
     have hb:=hk _ _ (Below.refl _ _) (Nat.le_refl _)
     have Na9:Hid (∀ k,F k→k≠a9):=zh (fun k h=>by have h1:=pst_lt Px28.out k h;omega)
     have NE:Hid (a9≠a10):=zh (by have h1:=A10x28.out.lt;omega)
     have GEa9:Hid (wk.heap.size≤a9):=zh (Nat.le_trans Dx28.out.size hge)
     have Dx29:Hid (Below wk.heap.size wk x29):=zh (Dx28.out.trans (hb.mono Dx28.out.size))
     have A10x29:=zh (A10x28.out.below hb A10x28.out.lt)
     have Px29:=zh (pst_below Px28.out hb)
     have A9x29:=zh ha
     clear ha hge hk hb
     (simp only [Mem.zp,Mem.pb,Mem.pc])
     (first | refine Mem.pm1 ?_ | refine Mem.pm2 ?_ | refine Mem.pt ?_ | refine Mem.pf ?_)
     (simp only [Mem.zp,Mem.pb,Mem.pc])
     refine plan_store _ _ _ a9 C Y 29 zr zr zr zr ze ze (by rw [CS.out];exact infoPS) A9x29.out (by rw [CS.out,YS.out]) CO.out (below_row Dx29.out GEa9.out C) ?_
     refine plan_store _ _ _ a10 M Z 32 zr zr zr zr ze ze (by rw [RS0.out];exact infoRfP) (A10x29.out.row_other C (fun h=>NE.out h.symm)) (by rw [RS0.out,ZS0.out]) RO.out (below_row (below_row Dx29.out GEa9.out C) GEa10.out M) ?_
     (first | refine Mem.pm1 ?_ | refine Mem.pm2 ?_ | refine Mem.pt ?_ | refine Mem.pf ?_)
     (simp only [Mem.zp,Mem.pb,Mem.pc])
     refine plan_nil ?_
     go_wp2_with fail
     go_meet
     refine ⟨b,F,a9,a10,rfl,rfl,rfl,rfl,?_,fun k h=>⟨FK.out k h,Na9.out k h,Na10.out k h⟩,(A9x29.out.row C).row_other M NE.out,(A10x29.out.row_other C (fun h=>NE.out h.symm)).row M,below_row (below_row Dx29.out GEa9.out C) GEa10.out M⟩
     refine pst_keep Px29.out (by rw [setRow_size,setRow_size];exact Nat.le_refl _) fun k hk _=>?_
     rw [setRow_other _ _ _ _ (Na10.out k hk),setRow_other _ _ _ _ (Na9.out k hk)]
    ·skip
     refine plan_alloc_any _ Y zr zr zr ALS.out (fun W' h=>h _ _ Dx27.out Dx27.out.size) ?_
     intro a9 x30 ha hge _ hk
     have hb:=hk _ _ (Below.refl _ _) (Nat.le_refl _)
     have NE:Hid (a9≠a10):=zh (by have h1:=A10x27.out.lt;omega)
     have GEa9:Hid (wk.heap.size≤a9):=zh (Nat.le_trans Dx27.out.size hge)
     have Dx30:Hid (Below wk.heap.size wk x30):=zh (Dx27.out.trans (hb.mono Dx27.out.size))
     have A10x30:=zh (A10x27.out.below hb A10x27.out.lt)
     have Sx30:=zh (Sx27.out.below hb)
     have A9x30:=zh ha
     clear ha hge hk hb
     (simp only [Mem.zp,Mem.pb,Mem.pc])
     refine plan_call 6 _ _ _ (by kernel_rfl) zr zr zr (by first | exact Mem.ev_none _ | (simp only [List.map_toArray,List.map_cons,List.map_nil,Mem.ev_tmp,List.getD_cons_succ,List.getD_cons_zero] <;> rfl)) ?_
     refine (LD.out _ _ (BK0.out.trans (Dx30.out.mono BK0.out.size)) Sx30.out).mono ?_
     rintro e x31 ⟨b,F,rfl,hp4,hF4,hb⟩
     have FK:Hid (∀ k,F k→wk.heap.size≤k):=zh (fun k h=>Nat.le_trans Dx30.out.size (hF4 k h))
     have Na9:Hid (∀ k,F k→k≠a9):=zh (fun k h=>by have h1:=hF4 k h;have h2:=A9x30.out.lt;omega)
     have Na10:Hid (∀ k,F k→k≠a10):=zh (fun k h=>by have h1:=hF4 k h;have h2:=A10x30.out.lt;omega)
     have Dx31:Hid (Below wk.heap.size wk x31):=zh (Dx30.out.trans (hb.mono Dx30.out.size))
     have A9x31:=zh (A9x30.out.below hb A9x30.out.lt)
     have A10x31:=zh (A10x30.out.below hb A10x30.out.lt)
     have Px31:=zh hp4
     clear hp4 hF4 hb
     refine ⟨_,rfl,Dx31.out,?_⟩
     (simp only [Mem.zp,Mem.pb,Mem.pc])
     (first | refine Mem.pm1 ?_ | refine Mem.pm2 ?_ | refine Mem.pt ?_ | refine Mem.pf ?_)
     (simp only [Mem.zp,Mem.pb,Mem.pc])
     refine plan_extract _ 0 _ (rq b) zr zr zr ze zr ?_
     (simp only [Mem.zp,Mem.pb,Mem.pc])
     refine plan_extract _ 1 _ (.agg C) zr zr zr ze zr ?_
     (simp only [Mem.zp,Mem.pb,Mem.pc])
     refine plan_extract _ 2 _ (.agg M) zr zr zr ze zr ?_
     (simp only [Mem.zp,Mem.pb,Mem.pc])
     refine plan_extract _ 3 _ (.bool true) zr zr zr ze zr ?_
     (simp only [Mem.zp,Mem.pb,Mem.pc])
     (first | refine Mem.pm1 ?_ | refine Mem.pm2 ?_ | refine Mem.pt ?_ | refine Mem.pf ?_)
     (simp only [Mem.zp,Mem.pb,Mem.pc])
     refine plan_store _ _ _ a9 C Y 29 zr zr zr zr ze ze (by rw [CS.out];exact infoPS) A9x31.out (by rw [CS.out,YS.out]) CO.out (below_row Dx31.out GEa9.out C) ?_
     refine plan_store _ _ _ a10 M Z 32 zr zr zr zr ze ze (by rw [RS0.out];exact infoRfP) (A10x31.out.row_other C (fun h=>NE.out h.symm)) (by rw [RS0.out,ZS0.out]) RO.out (below_row (below_row Dx31.out GEa9.out C) GEa10.out M) ?_
     (first | refine Mem.pm1 ?_ | refine Mem.pm2 ?_ | refine Mem.pt ?_ | refine Mem.pf ?_)
     (simp only [Mem.zp,Mem.pb,Mem.pc])
     refine plan_nil ?_
     go_wp2_with fail
     go_meet
     refine ⟨b,F,a9,a10,rfl,rfl,rfl,rfl,?_,fun k h=>⟨FK.out k h,Na9.out k h,Na10.out k h⟩,(A9x31.out.row C).row_other M NE.out,(A10x31.out.row_other C (fun h=>NE.out h.symm)).row M,below_row (below_row Dx31.out GEa9.out C) GEa10.out M⟩
     refine pst_keep Px31.out (by rw [setRow_size,setRow_size];exact Nat.le_refl _) fun k hk _=>?_
     rw [setRow_other _ _ _ _ (Na10.out k hk),setRow_other _ _ _ _ (Na9.out k hk)]
   ·skip
    refine plan_alloc_any _ Y zr zr zr ALS.out (fun W' h=>h _ _ Dx26.out Dx26.out.size) ?_
    intro a9 x32 ha hge _ hk
    have hb:=hk _ _ (Below.refl _ _) (Nat.le_refl _)
    have NE:Hid (a9≠a10):=zh (by have h1:=A10x26.out.lt;omega)
    have GEa9:Hid (wk.heap.size≤a9):=zh (Nat.le_trans Dx26.out.size hge)
    have Dx32:Hid (Below wk.heap.size wk x32):=zh (Dx26.out.trans (hb.mono Dx26.out.size))
    have A10x32:=zh (A10x26.out.below hb A10x26.out.lt)
    have A9x32:=zh ha
    clear ha hge hk hb
    (simp only [Mem.zp,Mem.pb,Mem.pc])
    refine plan_call 7 _ _ _ (by kernel_rfl) zr zr zr (by first | exact Mem.ev_none _ | (simp only [List.map_toArray,List.map_cons,List.map_nil,Mem.ev_tmp,List.getD_cons_succ,List.getD_cons_zero] <;> rfl)) ?_
    refine (PGG.out _ (BK0.out.trans (Dx32.out.mono BK0.out.size))).mono ?_
    rintro e x33 ⟨vp,rfl,hs3,hb⟩
    have Dx33:Hid (Below wk.heap.size wk x33):=zh (Dx32.out.trans (hb.mono Dx32.out.size))
    have A9x33:=zh (A9x32.out.below hb A9x32.out.lt)
    have A10x33:=zh (A10x32.out.below hb A10x32.out.lt)
    have Sx33:=zh hs3
    clear hs3 hb
    refine ⟨_,rfl,Dx33.out,?_⟩
    (simp only [Mem.zp,Mem.pb,Mem.pc])
    refine plan_call 6 _ _ _ (by kernel_rfl) zr zr zr (by first | exact Mem.ev_none _ | (simp only [List.map_toArray,List.map_cons,List.map_nil,Mem.ev_tmp,List.getD_cons_succ,List.getD_cons_zero] <;> rfl)) ?_
    refine (LD.out _ _ (BK0.out.trans (Dx33.out.mono BK0.out.size)) Sx33.out).mono ?_
    rintro e x34 ⟨b,F,rfl,hp4,hF4,hb⟩
    have FK:Hid (∀ k,F k→wk.heap.size≤k):=zh (fun k h=>Nat.le_trans Dx33.out.size (hF4 k h))
    have Na9:Hid (∀ k,F k→k≠a9):=zh (fun k h=>by have h1:=hF4 k h;have h2:=A9x33.out.lt;omega)
    have Na10:Hid (∀ k,F k→k≠a10):=zh (fun k h=>by have h1:=hF4 k h;have h2:=A10x33.out.lt;omega)
    have Dx34:Hid (Below wk.heap.size wk x34):=zh (Dx33.out.trans (hb.mono Dx33.out.size))
    have A9x34:=zh (A9x33.out.below hb A9x33.out.lt)
    have A10x34:=zh (A10x33.out.below hb A10x33.out.lt)
    have Px34:=zh hp4
    clear hp4 hF4 hb
    refine ⟨_,rfl,Dx34.out,?_⟩
    (simp only [Mem.zp,Mem.pb,Mem.pc])
    (first | refine Mem.pm1 ?_ | refine Mem.pm2 ?_ | refine Mem.pt ?_ | refine Mem.pf ?_)
    (simp only [Mem.zp,Mem.pb,Mem.pc])
    refine plan_extract _ 0 _ (rq b) zr zr zr ze zr ?_
    (simp only [Mem.zp,Mem.pb,Mem.pc])
    refine plan_extract _ 1 _ (.agg C) zr zr zr ze zr ?_
    (simp only [Mem.zp,Mem.pb,Mem.pc])
    refine plan_extract _ 2 _ (.agg M) zr zr zr ze zr ?_
    (simp only [Mem.zp,Mem.pb,Mem.pc])
    refine plan_extract _ 3 _ (.bool true) zr zr zr ze zr ?_
    (simp only [Mem.zp,Mem.pb,Mem.pc])
    (first | refine Mem.pm1 ?_ | refine Mem.pm2 ?_ | refine Mem.pt ?_ | refine Mem.pf ?_)
    (simp only [Mem.zp,Mem.pb,Mem.pc])
    refine plan_store _ _ _ a9 C Y 29 zr zr zr zr ze ze (by rw [CS.out];exact infoPS) A9x34.out (by rw [CS.out,YS.out]) CO.out (below_row Dx34.out GEa9.out C) ?_
    refine plan_store _ _ _ a10 M Z 32 zr zr zr zr ze ze (by rw [RS0.out];exact infoRfP) (A10x34.out.row_other C (fun h=>NE.out h.symm)) (by rw [RS0.out,ZS0.out]) RO.out (below_row (below_row Dx34.out GEa9.out C) GEa10.out M) ?_
    (first | refine Mem.pm1 ?_ | refine Mem.pm2 ?_ | refine Mem.pt ?_ | refine Mem.pf ?_)
    (simp only [Mem.zp,Mem.pb,Mem.pc])
    refine plan_nil ?_
    go_wp2_with fail
    go_meet
    refine ⟨b,F,a9,a10,rfl,rfl,rfl,rfl,?_,fun k h=>⟨FK.out k h,Na9.out k h,Na10.out k h⟩,(A9x34.out.row C).row_other M NE.out,(A10x34.out.row_other C (fun h=>NE.out h.symm)).row M,below_row (below_row Dx34.out GEa9.out C) GEa10.out M⟩
    refine pst_keep Px34.out (by rw [setRow_size,setRow_size];exact Nat.le_refl _) fun k hk _=>?_
    rw [setRow_other _ _ _ _ (Na10.out k hk),setRow_other _ _ _ _ (Na9.out k hk)]
 case rest=>
  obtain ⟨b,F0,a9,a10,rfl,rfl,rfl,rfl,hp4,hF4,h9,h10,hb4⟩:=hcut
  have hsk:sk < wk.heap.size:=KK.out.lt
  have PC:=zh hp4;have C6:=zh h9;have M6:=zh h10;have K6:=zh (KK.out.below hb4 hsk);have BC:=zh (BK0.out.trans (hb4.mono BK0.out.size))
  have F6:Hid (∀ k,F0 k→(k≠sk∧k≠a9∧k≠a10)∧w.heap.size≤k):=zh (fun k h=>by have h1:=hF4 k h;have h2:=BK0.out.size;exact ⟨⟨by omega,h1.2.1,h1.2.2⟩,by omega⟩)
  clear hp4 hF4 h9 h10 hb4 hsk KK BK0 PGG LD ALS ALR HSK
  go_upto_region 8 with fail
  go_loopw [67] (fun vi wr=>∃ i:Nat,i≤nt∧vi=.int .i64 (i:Int)∧∃ F s,PSt F b wr s∧Ok6 1000 s∧s.w=[]∧s.n=N∧(∀ k,F k→(k≠sk∧k≠a9∧k≠a10)∧w.heap.size≤k)∧At wr sk KC 26∧At wr a9 C 29∧At wr a10 M 32∧Below w.heap.size w wr) (fun vi _=>nt - (intOf vi).toNat)
  case atStart=>exact ⟨0,by omega,rfl,F0,I,PC.out,OKI.out,WI.out,NI.out,F6.out,K6.out,C6.out,M6.out,BC.out⟩
  case round=>
   obtain ⟨i,hi,rfl,F,s,hps,hok,hsw,hsn,hF,hKk,hC,hM,hbw⟩:=hrel
   have OKQ:=zh hok;have SWN:=zh hsw;have SN:=zh hsn;have FQ:=zh hF
   by_cases hlt:i < nt
   ·have hlt2:(i:Int) < (nt:Int):=by omega
    obtain ⟨tb,tof,rfl,htr⟩:=sltn_at (HTN.out.below hbw) HNT.out hlt
    obtain ⟨t,htt⟩:∃ t,t=ts.getD i ztn:=⟨_,rfl⟩
    rw [←htt] at htr
    clear htt
    obtain ⟨B,Aa,Yy⟩:=t
    obtain ⟨TC,hTC⟩:∃ T,T=tnC ⟨B,Aa,Yy⟩:=⟨_,rfl⟩
    obtain ⟨ZT,hZT⟩:∃ T,T=tnC ztn:=⟨_,rfl⟩
    have tc0:TC[0]?=some (.int .u16 (B.toNat:Int)):=by rw [hTC];rfl
    have tc1:TC[1]?=some (.int .u8 (Aa.toNat:Int)):=by rw [hTC];rfl
    have tc2:TC[2]?=some (.int .u8 (Yy.toNat:Int)):=by rw [hTC];rfl
    have tcs:TC.size=3:=by rw [hTC];rfl
    have tco:TC.all (·.oneCell')=true:=by rw [hTC];exact tnC_one _
    have zts:ZT.size=3:=by rw [hZT];rfl
    have hx:=zeroTn
    rw [←hTC] at htr
    rw [←hZT] at hx
    have TC0:=zh tc0;have TC1:=zh tc1;have TC2:=zh tc2;have TCS:=zh tcs;have TCO:=zh tco;have ZTS:=zh zts;have HTR:=zh htr
    have hb7:Below wr.heap.size wr (wr.alloc (.cells TC 38)):=(Below.refl _ _).alloc (Nat.le_refl _) _
    have PQ:=zh (pst_below hps hb7);have KA:=zh (hKk.below hb7 hKk.lt);have CA:=zh (hC.below hb7 hC.lt);have MA:=zh (hM.below hb7 hM.lt);have TCA:=zh (at_new wr TC 38)
    have BQ:Hid (Below w.heap.size w (wr.alloc (.cells TC 38))):=zh (hbw.alloc hbw.size _)
    have NL:Hid (¬ F wr.heap.size):=zh (fun h=>by have:=pst_lt hps _ h;omega)
    clear tc0 tc1 tc2 tcs tco zts htr hb7 hps hok hsw hsn hF hKk hC hM hbw hTC hZT
    go_upto_region 10 with (first
     | (refine wpList_load_mid zr 38 _ zr tb (tof+i*3) zr TC.toList _ HTR.out Tryz.underlying38 zr (by rw [infoTn,Array.length_toList,TCS.out]) ?_;rw [Array.toArray_toList])
     | (refine wpList_store_new zr 38 _ _ zr zr TC _ _ zr zr (by rw [TCS.out];exact infoTn) (by rw [TCS.out,ZTS.out]) TCO.out ?_))
    clear hx
    obtain ⟨l9,hl9⟩:∃ l,l=wr.heap.size:=⟨_,rfl⟩
    rw [←hl9] at TCA NL ⊢
    clear hl9
    generalize wr.alloc (.cells TC 38)=wq at *
    have D0:Hid (Below wq.heap.size wq wq.drew):=zh (Below.refl _ _).drew
    refine wp_region_plan_in (fun x'=>Below wq.heap.size wq x') (.take 0 (.take 1 (.take 2 (.take 3 (.sole 4 (.take 5 (.take 6 .done))))))) (by kernel_rfl) (by kernel_rfl) (by kernel_rfl) D0.out ?_
    refine plan_field 38 _ 0 l9 0 ⟨l9,0,none⟩ zr zr zr ze (fun wx=>by go_simp) ?_
    (simp only [Mem.zp,Mem.pb,Mem.pc])
    refine plan_cell 36 _ _ (.int .u16 (B.toNat:Int)) _ zr zr zr ze (fun w' hw'=>((TCA.out.below hw' TCA.out.lt).cell 0).trans TC0.out) Tryz.underlying36 zr ?_
    (simp only [Mem.zp,Mem.pb,Mem.pc])
    refine plan_conv _ _ _ _ (.int .i64 (B.toNat:Int)) zr zr zr ze (fun wx=>conv_tb B wx) ?_
    (simp only [Mem.zp,Mem.pb,Mem.pc])
    refine plan_row 29 _ a9 _ C 29 zr zr zr ze (fun w' hw'=>CA.out.below hw' CA.out.lt) Tryz.underlying29 zr (by rw [CS.out];exact infoPS) ?_
    (simp only [Mem.zp,Mem.pb,Mem.pc])
    refine plan_call 8 _ _ _ (by kernel_rfl) zr zr zr (by first | exact Mem.ev_none _ | (simp only [List.map_toArray,List.map_cons,List.map_nil,Mem.ev_tmp,List.getD_cons_succ,List.getD_cons_zero] <;> rfl)) ?_
    refine (BK.out _).mono ?_
    rintro e wb ⟨rfl,hb⟩
    have D1:Hid (Below wq.heap.size wq wb):=zh (D0.out.trans (hb.mono D0.out.size))
    clear hb
    refine ⟨_,rfl,D1.out,?_⟩
    (simp only [Mem.zp,Mem.pb,Mem.pc])
    refine plan_bin _ _ _ _ _ _ _ (.int .i64 ((B.toNat % N:Nat):Int)) zr zr zr ze ze (fun wx=>o_rem _ _ _ _ _ hN0 (by have:=B.isLt;omega) wx) ?_
    (simp only [Mem.zp,Mem.pb,Mem.pc])
    (first | refine Mem.pm1 ?_ | refine Mem.pm2 ?_ | refine Mem.pt ?_ | refine Mem.pf ?_)
    (simp only [Mem.zp,Mem.pb,Mem.pc])
    refine plan_nil ?_
    obtain ⟨nb,hnb⟩:∃ n,n=B.toNat % N:=⟨_,rfl⟩
    have HNB:Hid (nb < N):=zh (by rw [hnb];exact Nat.mod_lt _ hN0)
    rw [←hnb]
    clear hnb
    go_wp2_with fail
    refine (pread_any nb wb (pst_below PQ.out D1.out) OKQ.out (by rw [SN.out];exact HNB.out)).mono ?_
    rintro e wy ⟨vr,rfl,hsr,hby⟩
    have hrl:=stRead_len14 OKQ.out SWN.out (n:=nb) (by rw [SN.out];exact HNB.out)
    obtain ⟨XB,hXB⟩:∃ X,X=stRead s nb:=⟨_,rfl⟩
    rw [←hXB] at hsr hrl
    clear hXB
    have D2:Hid (Below wq.heap.size wq wy):=zh (D1.out.trans (hby.mono D1.out.size))
    have hsr2:=hsr.sl
    obtain ⟨ar,cr,rfl⟩:=sl_inv hsr2
    obtain ⟨_,_,er,_,hr⟩:=hsr2
    injection er with er1 er2 er3
    subst er1
    obtain ⟨rb,ro,erb,hrb,hrc⟩:=hr (fun h=>by rw [h] at hrl;cases hrl)
    subst erb
    rw [hrl]
    have hA256:Aa.toNat < 256:=Aa.isLt
    have hcl:=hrc Aa.toNat (by rw [hrl];exact hA256)
    obtain ⟨bv,hbv⟩:∃ v,v=XB.getD Aa.toNat 0:=⟨_,rfl⟩
    rw [←hbv] at hcl
    have NRB:Hid (¬ F rb):=zh (fun h=>by
     have h1:=pst_lt (pst_below PQ.out D1.out) _ h
     have h2:=slB_low hsr (by rw [hrl];decide)
     omega)
    have CL:=zh hcl
    have PY:=zh (pst_below PQ.out D2.out);have KY:=zh (KA.out.below D2.out KA.out.lt);have CY:=zh (CA.out.below D2.out CA.out.lt);have MY:=zh (MA.out.below D2.out MA.out.lt);have TY:=zh (TCA.out.below D2.out TCA.out.lt);have BY:Hid (Below w.heap.size w wy):=zh (BQ.out.trans (D2.out.mono BQ.out.size))
    clear hrc hcl hbv hr hrb hsr hby er2 er3 PQ KA CA MA TCA BQ D0 D1 D2
    go_upto_region 12 with fail
    refine wp_region_plan_in (fun x'=>At x' l9 TC 38∧x'.cell? ⟨rb,ro+Aa.toNat,none⟩=some (.int .u8 (bv.toNat:Int))) (.take 0 (.take 1 (.take 2 (.take 3 (.take 4 (.take 5 (.take 6 (.take 7 (.take 8 (.take 9 (.take 10 (.take 11 (.take 12 (.take 13 (.take 14 (.take 15 (.take 16 (.sole 17 (.sole 18 (.take 19 (.take 20 .done))))))))))))))))))))) (by kernel_rfl) (by kernel_rfl) (by kernel_rfl) ⟨TY.out,CL.out⟩ ?_
    (first | refine Mem.pm1 ?_ | refine Mem.pm2 ?_ | refine Mem.pt ?_ | refine Mem.pf ?_)
    (simp only [Mem.zp,Mem.pb,Mem.pc])
    refine plan_len _ _ _ _ 256 _ zr zr zr zr ze (fun wx=>by go_simp) ?_
    (simp only [Mem.zp,Mem.pb,Mem.pc])
    refine plan_bin _ _ _ _ _ _ _ (.bool false) zr zr zr ze zr (fun wx=>by go_simp) ?_
    (simp only [Mem.zp,Mem.pb,Mem.pc])
    iterate 3 ((first | refine Mem.pm1 ?_ | refine Mem.pm2 ?_ | refine Mem.pt ?_ | refine Mem.pf ?_);(simp only [Mem.zp,Mem.pb,Mem.pc]))
    refine plan_field 38 _ 1 l9 0 ⟨l9,1,none⟩ zr zr zr ze (fun wx=>by go_simp) ?_
    (simp only [Mem.zp,Mem.pb,Mem.pc])
    refine plan_cell 5 _ _ (.int .u8 (Aa.toNat:Int)) _ zr zr zr ze (fun w' hw'=>(hw'.1.cell 1).trans TC1.out) Tryz.underlying5 zr ?_
    (simp only [Mem.zp,Mem.pb,Mem.pc])
    refine plan_conv _ _ _ _ (.int .i64 (Aa.toNat:Int)) zr zr zr ze (fun wx=>conv_ta Aa wx) ?_
    (simp only [Mem.zp,Mem.pb,Mem.pc])
    (first | refine Mem.pm1 ?_ | refine Mem.pm2 ?_ | refine Mem.pt ?_ | refine Mem.pf ?_)
    (simp only [Mem.zp,Mem.pb,Mem.pc])
    refine plan_field 38 _ 1 l9 0 ⟨l9,1,none⟩ zr zr zr ze (fun wx=>by go_simp) ?_
    (simp only [Mem.zp,Mem.pb,Mem.pc])
    refine plan_cell 5 _ _ (.int .u8 (Aa.toNat:Int)) _ zr zr zr ze (fun w' hw'=>(hw'.1.cell 1).trans TC1.out) Tryz.underlying5 zr ?_
    (simp only [Mem.zp,Mem.pb,Mem.pc])
    refine plan_index_u8 40 5 _ _ rb ro 256 cr Aa.toNat zr zr zr ze ze hA256 Tryz.underlying40 infoB ?_
    (simp only [Mem.zp,Mem.pb,Mem.pc])
    refine plan_cell 5 _ _ (.int .u8 (bv.toNat:Int)) _ zr zr zr ze (fun w' hw'=>hw'.2) Tryz.underlying5 zr ?_
    (simp only [Mem.zp,Mem.pb,Mem.pc])
    refine plan_field 38 _ 2 l9 0 ⟨l9,2,none⟩ zr zr zr ze (fun wx=>by go_simp) ?_
    (simp only [Mem.zp,Mem.pb,Mem.pc])
    refine plan_cell 5 _ _ (.int .u8 (Yy.toNat:Int)) _ zr zr zr ze (fun w' hw'=>(hw'.1.cell 2).trans TC2.out) Tryz.underlying5 zr ?_
    (simp only [Mem.zp,Mem.pb,Mem.pc])
    refine plan_bin _ _ _ _ _ _ _ (.int .u8 ((bv ^^^ Yy).toNat:Int)) zr zr zr ze ze (fun wx=>o_xor14 _ _ _ _ _ _ wx) ?_
    (simp only [Mem.zp,Mem.pb,Mem.pc])
    have hrl2:rb < wy.heap.size:=block_lt_of_cell CL.out
    have E1:Below wy.heap.size wy (wy.drew.alloc (.cells #[.int .u8 ((bv ^^^ Yy).toNat:Int)] 5)):=((Below.refl _ _).drew).alloc (Nat.le_refl _) _
    refine plan_slice 40 5 1 _ #[.int .u8 ((bv ^^^ Yy).toNat:Int)] zr zr zr Tryz.underlying40 (by kernel_rfl) ⟨TY.out.below E1 TY.out.lt,(E1.cell (p:=⟨rb,ro+Aa.toNat,none⟩) hrl2).trans CL.out⟩ ?_
    (simp only [Mem.zp,Mem.pb,Mem.pc])
    have SY1:Hid (Sl (wy.drew.alloc (.cells #[.int .u8 ((bv ^^^ Yy).toNat:Int)] 5)) (.slice (some ⟨wy.drew.heap.size,0,none⟩) 1 1) [bv ^^^ Yy]):=zh (at_sl (at_new wy.drew #[.int .u8 ((bv ^^^ Yy).toNat:Int)] 5) rfl)
    have D2:=zh E1
    clear E1
    refine plan_call 10 _ _ _ (by kernel_rfl) zr zr zr (by first | exact Mem.ev_none _ | (simp only [List.map_toArray,List.map_cons,List.map_nil,Mem.ev_tmp,List.getD_cons_succ,List.getD_cons_zero] <;> rfl)) ?_
    refine (ptamper_good nb Aa.toNat [bv ^^^ Yy] _ _ (pst_below PY.out D2.out) OKQ.out (SY1.out) (by rw [SN.out];exact HNB.out) (by simp only [List.length_singleton];omega)).mono ?_
    rintro e we ⟨rfl,hse⟩
    obtain ⟨⟨F',hp',hF'⟩,hc⟩:=hse
    have hat:∀ {k:Nat} {D:Array Value} {t:TypeId},At wy k D t→¬ F k→At we k D t:=fun {k D t} h hn=>by
     have hl:=h.lt
     have h2:=h.below D2.out hl
     have hb:=hc.block k h2.lt hn
     unfold At at *
     rw [hb];exact h2
    have CE:=zh (hat CY.out (fun h=>(FQ.out _ h).1.2.1 rfl));have ME:=zh (hat MY.out (fun h=>(FQ.out _ h).1.2.2 rfl));have KE:=zh (hat KY.out (fun h=>(FQ.out _ h).1.1 rfl));have TE:=zh (hat TY.out (fun h=>NL.out h))
    have CLE:Hid (we.cell? ⟨rb,ro+Aa.toNat,none⟩=some (.int .u8 (bv.toNat:Int))):=zh (by
     have h1:=D2.out.block rb hrl2
     have h2:=hc.block rb (Nat.lt_of_lt_of_le hrl2 D2.out.size) NRB.out
     exact (World.cell?_of_block (w:=wy) (w':=we) (a:=⟨rb,ro+Aa.toNat,none⟩) (h2.trans h1)).trans CL.out)
    have PE:=zh hp';have BE:Hid (Below w.heap.size w we):=zh (Chg.below hc (BY.out.trans (D2.out.mono BY.out.size)) (fun k h=>(FQ.out k h).2) (Nat.le_trans BY.out.size D2.out.size))
    have OKE:=zh (ok_tam OKQ.out nb Aa.toNat [bv ^^^ Yy] (by rw [SN.out];exact HNB.out) (by simp only [List.length_singleton];omega))
    have FE:Hid (∀ k,F' k→(k≠sk∧k≠a9∧k≠a10)∧w.heap.size≤k):=zh (fun k h=>by
     rcases hF' k h with g | g
     ·exact FQ.out k g
     ·have h1:=CY.out.lt
      have h2:=MY.out.lt
      have h3:=BY.out.size
      have h4:=D2.out.size
      have h5:=KY.out.lt
      omega)
    clear hp' hF' hc hat
    refine ⟨_,rfl,⟨TE.out,CLE.out⟩,?_⟩
    (simp only [Mem.zp,Mem.pb,Mem.pc])
    refine plan_bin _ _ _ _ _ _ _ (.bool false) zr zr zr ze zr (fun wx=>by go_simp) ?_
    (simp only [Mem.zp,Mem.pb,Mem.pc])
    refine plan_pick_f _ _ _ _ zr zr zr ze ze ?_
    (simp only [Mem.zp,Mem.pb,Mem.pc])
    refine plan_nil ?_
    go_wp2_with fail
    go_roundw
    case rel=>exact ⟨i+1,by omega,by go_num,F',_,PE.out,OKE.out,SWN.out,SN.out,FE.out,KE.out,CE.out,ME.out,BE.out⟩
    case measure=>simp [intOf];omega
   ·have hin:i=nt:=by omega
    have hge:¬ (i:Int) < (nt:Int):=by omega
    have hBl:s.b.length≤1000000:=by
     have h:=hok.b
     rw [hsn] at h
     omega
    have wh:=fun wx h hp=>WH.out F b s wx h hp hok hsw;have wy:=fun wx h hp=>WY.out F b s wx h hp hok hsw
    have hwf:=HWF.out s.b;have hfw:=HFW.out s.b;have ywf:=YWF.out s.b;have yfw:=YFW.out s.b
    have byt:=fun wx (hp:PSt F b wx s)=>dvbytes_any wx hp (by rw [hsn];omega) (by rw [hsn];omega)
    have P0:=zh hps;have K0:=zh hKk;have C0:=zh hC;have M0:=zh hM;have B0:=zh hbw;have BYT:=zh byt
    clear hps hKk hC hM hbw byt hok hsw hsn hF OKQ SWN SN FQ
    go_wp2_with fail
    refine (RNW.out _).mono ?_
    rintro e w7 ⟨vL,vF,rfl,hR7,hb7⟩
    obtain ⟨H,hH⟩:∃ H,H=rsC p vL vF:=⟨_,rfl⟩
    have HS:=zh (show H.size=3 by rw [hH];rfl)
    have HO:Hid (H.all (·.oneCell')=true):=zh (by rw [hH];exact hR7.oneC)
    have rwh:=fun vb wx hv h=>RWH.out s.b vb vL vF wx hv hBl h
    have rwy:=fun vb wx hv h=>RWY.out s.b vb vL vF wx hv hBl h
    rw [←hH] at rwh rwy ⊢
    obtain ⟨wt,hwt⟩:∃ x,x=WT s.b:=⟨_,rfl⟩
    obtain ⟨yt,hyt⟩:∃ x,x=YT s.b:=⟨_,rfl⟩
    rw [←hwt] at wh rwh hwf hfw
    rw [←hyt] at wy rwy ywf yfw
    obtain ⟨RA,GA,ea⟩:=wt
    obtain ⟨RY,GY,ey⟩:=yt
    unfold WhEnd at wh rwh
    unfold WyEnd at wy rwy
    simp only at wh rwh wy rwy hwf hfw ywf yfw
    have lk:=fun va vb wx ha hb=>like_any GA GA va vb wx ha hb hfw.2.1 hfw.2.2 hfw.2.2
    rw [decide_eq_true rfl] at lk
    have sr:=fun va vb wx ha hb=>same14_any RA RA va vb wx ha hb hwf hwf hfw.1 hfw.1
    have sy:=fun va vb wx ha hb=>same14_any RY RY va vb wx ha hb ywf ywf yfw.1 yfw.1
    rw [sameRf14_self] at sr sy
    have hy2:=yfw.2
    have sm:=fun va vb wx ha hb=>same_any GY GY va vb wx ha hb (by omega) (by omega)
    rw [show sameB GY GY=true by simp [sameB]] at sm
    have WHX:=zh wh;have WYX:=zh wy;have RWX:=zh rwh;have RYX:=zh rwy;have LK:=zh lk;have SR:=zh sr;have SY:=zh sy;have SM:=zh sm
    have E8:Below w7.heap.size w7 (w7.alloc (.cells H 47)):=(Below.refl _ _).alloc (Nat.le_refl _) _
    have F8:Below wr.heap.size wr (w7.alloc (.cells H 47)):=hb7.trans (E8.mono hb7.size)
    have H8:=zh (at_new w7 H 47)
    have R8:=zh (hR7.below E8);have C8:=zh (C0.out.below F8 C0.out.lt);have M8:=zh (M0.out.below F8 M0.out.lt);have K8:=zh (K0.out.below F8 K0.out.lt);have P8:=zh (pst_below P0.out F8);have B8:Hid (Below w.heap.size w (w7.alloc (.cells H 47))):=zh (B0.out.trans (F8.mono B0.out.size))
    clear wh wy rwh rwy lk sr sy sm hwf hfw ywf yfw hwt hyt hH hR7 hb7 E8 F8 P0 K0 C0 M0 B0 WH WY RWH RWY HWF HFW YWF YFW hy2 hBl
    go_upto_region 16 with (refine wpList_store_new zr 47 _ _ zr zr H _ _ zr zr (by rw [HS.out];exact infoRS) (by rw [HS.out,ZSS.out]) HO.out ?_)
    clear hxs
    obtain ⟨s7,hs7⟩:∃ s,s=w7.heap.size:=⟨_,rfl⟩
    rw [←hs7] at H8 ⊢
    clear hs7
    generalize w7.alloc (.cells H 47)=w8 at *
    go_wp2_with fail
    refine (BYT.out _ P8.out).mono ?_
    rintro e y0 ⟨vb,rfl,hv9,hb9⟩
    have D0:Hid (Below w8.heap.size w8 y0):=zh hb9;have V0:=zh (OwnB.sl hv9)
    clear hv9 hb9
    go_wp2_with (first
     | (refine wpList_load_all zr 26 _ zr sk zr _ Tryz.underlying26 zr KC _ (K8.out.below D0.out K8.out.lt) (by rw [KS.out];kernel_rfl) ?_)
     | (refine wpList_load_all zr 29 _ zr a9 zr _ Tryz.underlying29 zr C _ (C8.out.below D0.out C8.out.lt) (by rw [CS.out];exact infoPS) ?_)
     | (refine wpList_load_all zr 32 _ zr a10 zr _ Tryz.underlying32 zr M _ (M8.out.below D0.out M8.out.lt) (by rw [RS0.out];exact infoRfP) ?_))
    refine (WHX.out _ (B8.out.trans (D0.out.mono B8.out.size)) (pst_below P8.out D0.out)).mono ?_
    rintro e y1 ⟨v1,v2,rfl,h1,h2,hb⟩
    have D1:Hid (Below w8.heap.size w8 y1):=zh (D0.out.trans (hb.mono D0.out.size));have V1:=zh (V0.out.below hb);have A1:=zh h1;have G1:=zh h2
    clear h1 h2 hb D0 V0
    go_wp2_with (first
     | (refine wpList_load_all zr 26 _ zr sk zr _ Tryz.underlying26 zr KC _ (K8.out.below D1.out K8.out.lt) (by rw [KS.out];kernel_rfl) ?_)
     | (refine wpList_load_all zr 47 _ zr s7 zr _ Tryz.underlying47 zr H _ (H8.out.below D1.out H8.out.lt) (by rw [HS.out];exact infoRS) ?_)
     | (refine wpList_load_all zr 32 _ zr a10 zr _ Tryz.underlying32 zr M _ (M8.out.below D1.out M8.out.lt) (by rw [RS0.out];exact infoRfP) ?_))
    refine (RWX.out _ _ V1.out (R8.out.below D1.out)).mono ?_
    rintro e y2 ⟨v3,v4,rfl,h1,h2,hb⟩
    have D2:Hid (Below w8.heap.size w8 y2):=zh (D1.out.trans (hb.mono D1.out.size));have V2:=zh (V1.out.below hb);have A2:=zh (A1.out.below hb);have G2:=zh (G1.out.below hb);have E2:=zh h1;have J2:=zh h2
    clear h1 h2 hb D1 V1 A1 G1
    go_wp2_with (first
     | (refine wpList_load_all zr 26 _ zr sk zr _ Tryz.underlying26 zr KC _ (K8.out.below D2.out K8.out.lt) (by rw [KS.out];kernel_rfl) ?_)
     | (refine wpList_load_all zr 29 _ zr a9 zr _ Tryz.underlying29 zr C _ (C8.out.below D2.out C8.out.lt) (by rw [CS.out];exact infoPS) ?_)
     | (refine wpList_load_all zr 32 _ zr a10 zr _ Tryz.underlying32 zr M _ (M8.out.below D2.out M8.out.lt) (by rw [RS0.out];exact infoRfP) ?_))
    refine (WYX.out _ (B8.out.trans (D2.out.mono B8.out.size)) (pst_below P8.out D2.out)).mono ?_
    rintro e y3 ⟨v5,v6,rfl,h1,h2,hb⟩
    have D3:Hid (Below w8.heap.size w8 y3):=zh (D2.out.trans (hb.mono D2.out.size));have V3:=zh (V2.out.below hb);have A3:=zh (A2.out.below hb);have G3:=zh (G2.out.below hb);have E3:=zh (E2.out.below hb);have J3:=zh (J2.out.below hb);have U3:=zh h1;have X3:=zh h2
    clear h1 h2 hb D2 V2 A2 G2 E2 J2
    go_wp2_with (first
     | (refine wpList_load_all zr 26 _ zr sk zr _ Tryz.underlying26 zr KC _ (K8.out.below D3.out K8.out.lt) (by rw [KS.out];kernel_rfl) ?_)
     | (refine wpList_load_all zr 47 _ zr s7 zr _ Tryz.underlying47 zr H _ (H8.out.below D3.out H8.out.lt) (by rw [HS.out];exact infoRS) ?_)
     | (refine wpList_load_all zr 32 _ zr a10 zr _ Tryz.underlying32 zr M _ (M8.out.below D3.out M8.out.lt) (by rw [RS0.out];exact infoRfP) ?_))
    refine (RYX.out _ _ V3.out (R8.out.below D3.out)).mono ?_
    rintro e y4 ⟨v7,v8,rfl,h1,h2,hb⟩
    have D4:Hid (Below w8.heap.size w8 y4):=zh (D3.out.trans (hb.mono D3.out.size));have A4:=zh (A3.out.below hb);have G4:=zh (G3.out.below hb);have E4:=zh (E3.out.below hb);have J4:=zh (J3.out.below hb);have U4:=zh (U3.out.below hb);have X4:=zh (X3.out.below hb);have W4:=zh h1;have Q4:=zh h2
    clear h1 h2 hb D3 V3 A3 G3 E3 J3 U3 X3
    go_wp2_with fail
    refine (SR.out _ _ _ A4.out E4.out).mono ?_
    rintro e y5 ⟨rfl,hb⟩
    have D5:Hid (Below w8.heap.size w8 y5):=zh (D4.out.trans (hb.mono D4.out.size));have G5:=zh (G4.out.below hb);have J5:=zh (J4.out.below hb);have U5:=zh (U4.out.below hb);have X5:=zh (X4.out.below hb);have W5:=zh (W4.out.below hb);have Q5:=zh (Q4.out.below hb)
    clear hb D4 A4 E4 G4 J4 U4 X4 W4 Q4
    go_wp2_with fail
    refine (LK.out _ _ _ G5.out J5.out).mono ?_
    rintro e y6 ⟨rfl,hb⟩
    have D6:Hid (Below w8.heap.size w8 y6):=zh (D5.out.trans (hb.mono D5.out.size));have U6:=zh (U5.out.below hb);have X6:=zh (X5.out.below hb);have W6:=zh (W5.out.below hb);have Q6:=zh (Q5.out.below hb)
    clear hb D5 G5 J5 U5 X5 W5 Q5
    go_wp2_with fail
    refine (SY.out _ _ _ U6.out W6.out).mono ?_
    rintro e y7 ⟨rfl,hb⟩
    have D7:Hid (Below w8.heap.size w8 y7):=zh (D6.out.trans (hb.mono D6.out.size));have X7:=zh (X6.out.below hb);have Q7:=zh (Q6.out.below hb)
    clear hb D6 U6 W6 X6 Q6
    go_wp2_with fail
    refine (SM.out _ _ _ X7.out Q7.out).mono ?_
    rintro e y8 ⟨rfl,hb⟩
    have BE:Hid (Below w.heap.size w y8):=zh (B8.out.trans ((D7.out.trans (hb.mono D7.out.size)).mono B8.out.size))
    clear hb D7 X7 Q7
    go_wp2_with fail
    refine (LIVE.out _ BE.out).mono ?_
    rintro e wz ⟨rfl,hbz⟩
    have BZ:Hid (Below w.heap.size w wz):=zh (BE.out.trans (hbz.mono BE.out.size))
    clear hbz
    go_wp2_with fail
    go_ret
    exact ⟨rfl,BZ.out⟩
end Sha
end Go.Proofs.YtddjdaocdfkgeaaGreatDoor
