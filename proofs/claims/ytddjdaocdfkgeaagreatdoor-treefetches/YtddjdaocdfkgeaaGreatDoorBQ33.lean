/- My own texts, merged. -/
import Derived.Test.YtddjdaocdfkgeaaGreatDoorBQ01
import Derived.Test.YtddjdaocdfkgeaaGreatDoorBQ30
import Derived.Test.YtddjdaocdfkgeaaGreatDoorBQ08
set_option maxRecDepth 100000
set_option maxHeartbeats 1000000
namespace Go.Proofs.YtddjdaocdfkgeaaGreatDoor
namespace Sha
open Go.RowKit Mem
theorem i64s_snoc (l:List Int) (n:Int):i64s l++[.int .i64 n]=i64s (l++[n]):=by simp [i64s]
theorem pv_note {F D:Foot} {br bb:Nat} {w w1 w2:World} {s:St6} {vw vs vt vt':Value} {n:Int} (h:PV F D br bb w s vw vs vt) (ho:w1.ownsRow 0 3 1 vt' (s.t.length+1) (i64s s.t++[.int .i64 n])) (ha:App w w1 vt vt') (hb:Below 0 w w1)
 (hA:At w2 br (pRow bb s.n vw vs vt') 84) (hk2:∀ k,k≠br→w2.heap[k]?=w1.heap[k]?) (hk:∀ B a,Below B a w1→B≤br→Below B a w2):StEnd PSt F br w { s with t:=s.t++[n] } w2:=by
 have h1:=pm_trace (l:=s.t++[n]) h.m h.blt ⟨_,h.row⟩ ha (by rw [List.length_append,←i64s_snoc];exact ho)
 obtain ⟨h3,h4⟩:=pv_set (s':={ s with t:=s.t++[n] }) h rfl (ha.chg hb fun k e=>(h.m.ot k e).1) hA hk2 hk h1 (fun k hk _=>hk)
 exact pv_end h3 h4
theorem pnote_any {F:Foot} {br:Nat} {s:St6} (n:Int) (w:World) (hr:PSt F br w s) (ht:s.t.length≤1001) :
 Calls Tryz.prog 51 #[rq br,.int .i64 n] w fun e w'=>e=.returned (.tuple #[])∧StEnd PSt F br w { s with t:=s.t++[n] } w':=by
 obtain ⟨D,bb,vw,vs,vt,hv⟩:=hr
 obtain ⟨at4,c4,rfl⟩:=hv.t_hd
 obtain ⟨L,hL⟩:∃ L,L=s.t.length:=⟨_,rfl⟩
 obtain ⟨N,hN⟩:∃ N,N=s.n:=⟨_,rfl⟩
 have hrow:=hv.row
 have hne:=own_ne_at hv.m.ht hv.row (by decide)
 have hown:=ownsRow_below hv.m.ht ((Below.refl _ _).alloc (Nat.le_refl _) (.cells #[.int .i64 n] 3))
 rw [←hL] at hrow ht hv hown hne
 rw [←hN] at hrow
 have c3:w.cell? ⟨br,3,none⟩=some (.slice at4 L c4):=by rw [hrow.cell];rfl
 have g1:¬ (L:Int)=100000:=by omega
 have hal:Below w.heap.size w (w.alloc (.cells #[.int .i64 n] 3)):=(Below.refl _ _).alloc (Nat.le_refl _) _
 have HV:=zh hv;have HROW:=zh hrow;have HO:=zh hown;have HB:=zh hal;have HNE:=zh hne;have HL:=zh hL;have HN:=zh hN
 clear hv hrow hown hal hne hL hN
 go_enter Tryz.func51,Tryz.ntmps51
 go_wp2_with (first
  | (at_builtin;go_loud (refine wpList_append_app zr _ _ 45 zr (.slice (some ⟨w.heap.size,0,none⟩) 1 1) L 1 1 [.int .i64 n] (.int .i64 0) 8 elemRI zr (by decide) zr HO.out zr (by exact rdR_new (e:=3) (C:=#[.int .i64 n])) (by simp [Value.oneCell']) (by omega) (by omega) (by omega) ?_;intro v5 w5 ho5 ha5 hb5;obtain ⟨a5,c5,rfl⟩:=rows_hd ho5;have O5:=zh ho5;have A5:Hid (App w w5 (.slice at4 L c4) (.slice a5 (L+1) c5)):=ha5.after HB.out;have B5:Hid (Below 0 w w5):=(HB.out.mono (Nat.zero_le _)).trans hb5;have R5:Hid (At w5 br _ _):=at_appd HROW.out A5.out HNE.out;clear ho5 ha5 hb5))
  | (refine Mem.wpList_store_one zr 45 _ _ zr zr br 3 (.slice a5 (L+1) c5) zr zr zr infoInts _ 84 R5.out (by simp [pRow]) ?_;intro w8 ha ho hk;have R8:Hid (StEnd PSt F br w { s with t:=s.t++[n] } w8):=pv_note HV.out (by rw [←HL.out];exact O5.out) A5.out B5.out (by rw [←HN.out];exact ha) ho hk;clear ha ho hk))
 go_end0
 exact ⟨rfl,R8.out⟩
theorem dvbytes_any {F:Foot} {br:Nat} {s:St6} (w:World) (hr:PSt F br w s) (h1:1≤s.n) (h2:s.n≤1024) :
 Calls Tryz.prog 12 #[rq br] w fun e w'=>∃ v,e=.returned v∧OwnB w' w.heap.size v s.b∧Below w.heap.size w w':=by
 obtain ⟨D,bb,vw,vs,vt,hv⟩:=hr
 obtain ⟨L,hL⟩:∃ L,L=s.n*256:=⟨_,rfl⟩
 have hrow:=hv.row
 have hmd:=pmade_any br bb s.n vw vs vt w hv.row h2 h1
 have hcl:=pclone_any s.b (.slice (some ⟨bb,0,none⟩) L L) w (by rw [hv.m.len];omega) (at_sl hv.m.by8 (by rw [hv.m.len,hL]))
 have c0:w.cell? ⟨br,0,none⟩=some (.slice (some ⟨bb,0,none⟩) L L):=by rw [hrow.cell,hL];rfl
 have MD:=zh hmd;have CL:=zh hcl
 clear hrow hmd hcl hL hv
 go_enter Tryz.func12,Tryz.ntmps12
 go_wp2_with fail
 refine MD.out.mono ?_
 rintro o w' ⟨rfl,rfl⟩
 go_wp2_with fail
 refine CL.out.mono ?_
 rintro o w3 ⟨v3,rfl,ho3,hb3⟩
 have O3:=zh ho3;have B3:=zh hb3
 clear ho3 hb3
 go_wp2_with fail
 go_ret
 exact ⟨v3,rfl,O3.out,B3.out⟩
theorem ptrace_any {F:Foot} {br:Nat} {s:St6} (w:World) (hr:PSt F br w s) (h1:1≤s.n) (h2:s.n≤1024) (ht:s.t.length≤1000) :
 Calls Tryz.prog 20 #[rq br] w fun e w'=>∃ v,e=.returned v∧w'.ownsRow w.heap.size 3 1 v s.t.length (i64s s.t)∧Below w.heap.size w w':=by
 obtain ⟨D,bb,vw,vs,vt,hv⟩:=hr
 obtain ⟨at4,c4,rfl⟩:=hv.t_hd
 have hrow:=hv.row
 have hmd:=pmade_any br bb s.n vw vs _ w hv.row h2 h1
 have hcl:=iclone_any s.t _ w (by omega) (ownsRow_slR hv.m.ht)
 obtain ⟨L,hL⟩:∃ L,L=s.t.length:=⟨_,rfl⟩
 rw [←hL] at hrow hcl ⊢
 have c3:w.cell? ⟨br,3,none⟩=some (.slice at4 L c4):=by rw [hrow.cell];rfl
 have MD:=zh hmd;have CL:=zh hcl
 clear hrow hmd hcl hL hv
 go_enter Tryz.func20,Tryz.ntmps20
 go_wp2_with fail
 refine MD.out.mono ?_
 rintro o w' ⟨rfl,rfl⟩
 go_wp2_with fail
 refine CL.out.mono ?_
 rintro o w3 ⟨v3,rfl,ho3,hb3⟩
 have O3:=zh ho3;have B3:=zh hb3
 clear ho3 hb3
 go_wp2_with fail
 go_ret
 exact ⟨v3,rfl,O3.out,B3.out⟩
theorem pst_new {w w4:World} {bb n:Nat} (hr:At w4 bb (u8s (List.replicate (n*256) 0)).toArray 5) (_hw:w.heap.size≤bb) :
 PSt (fun k=>k=bb∨k=w4.heap.size) w4.heap.size (w4.alloc (.cells (pRow bb n (.slice none 0 0) (.slice none 0 0) (.slice none 0 0)) 84)) (stNew n):=by
 have hlt:=hr.lt
 refine ⟨fun _=>False,bb,_,_,_,.inr rfl,fun k hk=>?_,at_new w4 _ _,⟨.inl rfl,by omega,hr.alloc _,by simp [stNew],fun k hk=>by simp [Value.ownBlock] at hk,fun k hk=>by simp [Value.ownBlock] at hk,fun k hk=>by simp [Value.ownBlock] at hk,fun k hk=>hk.elim,
  ⟨[],trivial,ownsRow_nil0 _ _ _ _⟩,⟨[],trivial,ownsRow_nil0 _ _ _ _⟩,ownsRow_nil0 _ _ _ _⟩⟩
 rw [World.size_alloc];rcases hk with rfl | rfl <;> omega
theorem dvnew_good (n:Nat) (w:World) (h1:1≤n) (h2:n≤1024):Calls Tryz.prog 22 #[.int .i64 (n:Int)] w fun e w'=>∃ b F,e=.returned (.tuple #[rq b,.int .i64 0])∧PSt F b w' (stNew n)∧(∀ k,F k→w.heap.size≤k)∧Below w.heap.size w w':=by
 obtain ⟨i8,hi8,hz8,hs8,hb8⟩:=info_parts infoU8
 have g1:¬ (n:Int) < 1:=by omega
 have g2:¬ (1024:Int) < (n:Int):=by omega
 obtain ⟨T,hT⟩:∃ T,T=n*256:=⟨_,rfl⟩
 have hTi:(n:Int)*256=(T:Int):=by omega
 have hT6:T≤262144:=by omega
 have I8:=zh hi8;have Z8:=zh hz8;have S8:=zh hs8;have B8':=zh hb8;have TI:=zh hTi;have HT:=zh hT
 clear hi8 hz8 hs8 hb8 hT hTi
 go_enter Tryz.func22,Tryz.ntmps22
 go_wp2_with (refine wpList_make_full _ zr _ _ 40 zr w.heap.size 5 i8 (.int .u8 0) 1 Tryz.underlying40 I8.out Z8.out S8.out .i64 .i64 ((n:Int)*256) ((n:Int)*256) T zr zr TI.out TI.out (by rw [B8'.out];omega) (by simp [maxLen];omega) (Nat.le_refl _) ?_;intro w4 ho4 hg4;have R4:Hid (At w4 w.heap.size (u8s (List.replicate T 0)).toArray 5):=(by have h:=own_full ho4;rw [made_zeros] at h;exact h);have B4:Hid (Below w.heap.size w w4):=(Below.refl _ _).grown hg4 (Nat.le_refl _) (fun _ h=>by cases h);clear ho4)
 go_ret2
 have h:=pst_new (w:=w) (w4:=w4) (bb:=w.heap.size) (n:=n) (by rw [←HT.out];exact R4.out) (Nat.le_refl _)
 unfold pRow pBl at h
 rw [←HT.out] at h
 exact ⟨w4.heap.size,rfl,_,h,fun k hk=>by have h5:=B4.out.size;rcases hk with rfl | rfl <;> omega,B4.out.alloc B4.out.size _⟩
end Sha
end Go.Proofs.YtddjdaocdfkgeaaGreatDoor
namespace Go.Proofs.YtddjdaocdfkgeaaGreatDoor
namespace Sha
open Go.RowKit Mem
section
variable {ops:Array Oper} {rest:List Oper} {o:Oper} {a:Act} {w:World} {Q:Exit→Act→World→Prop}
theorem wpList_from (hw:Region.wanted o (yielded ops a.tmps)=true) (ty:TypeId) (x i:Operand) (ho:o.op=.slice ty x (some i) none none) (hu:Tryz.prog.underlying ty=some (.slice 5)) (a0:Option Addr) (len cap k:Nat)
 (hx:a.eval x=.slice a0 len cap) (hi:a.eval i=.int .i64 (k:Int)) (hk:k≤len) (hc:len≤cap)
 (h:wpList Tryz.prog ops Q rest (a.put o.dst (.slice (pieceA a0 cap k) (len - k) (cap - k))) w):wpList Tryz.prog ops Q (o::rest) a w:=by
 have hr:=(slice_run ty 5 hu infoB a0 len cap k len hk (Nat.le_refl _) hc w).2.2
 unfold wpList
 rw [if_pos hw]
 left
 unfold Oper.wp
 have:(execOp a.eval o).run Tryz.prog w=.ok (.value (.slice (pieceA a0 cap k) (len - k) (cap - k))) w:=by
  unfold execOp
  simp only [ho,hx,hi,Option.map_some,Option.map_none,Sem.run_bind,hr,Result.andThen_ok,Sem.run_pure]
 rw [this]
 exact h
theorem wpList_copy_laid (hgd:o.guard=none) (x y:Operand)
 (ho:o.op=.call { callee:=.builtin .copy,args:=#[x,y],argTypes:=#[40,40] }) (b p p' dLen dCap:Nat) (vy:Value) (l m:Lb8) (hx:a.eval x=.slice (some ⟨b,p',none⟩) dLen dCap) (hy:a.eval y=vy) (hl:Sl w vy l)
 (hk:l.length≤dLen) (hC:At w b (u8s m).toArray 5) (hfit:p'+l.length≤m.length) (hp:l≠[]→p'=p)
 (h:∀ w',At w' b (u8s (laidB m p l)).toArray 5→w'.heap.size=w.heap.size→(∀ k,k≠b→w'.heap[k]?=w.heap[k]?)→(∀ B a,Below B a w→B≤b→Below B a w')→wpList Tryz.prog ops Q rest (a.put o.dst (.int .i64 (l.length:Int))) w'):wpList Tryz.prog ops Q (o::rest) a w:=by
 refine wpList_copy_sl hgd x y ho b p' dLen dCap vy l hx hy hl l.length (Nat.min_eq_left hk).symm (u8s m).toArray 5 hC (by simpa [u8s] using hfit) (u8s (laidB m p l)).toArray ?_ h
 rw [List.take_length,splice_laid]
 by_cases hne:l=[]
 ·subst hne;simp [laidB]
 ·rw [hp hne]
end
theorem pw_at {G D:Foot} {br bb:Nat} {w:World} {s:St6} {a:Option Addr} {n cap:Nat} {vs vt:Value} (m:PM G D br bb w s (.slice a n cap) vs vt) {j:Nat} (hj:j < s.w.length) :
 ∃ b o vh,a=some ⟨b,o,none⟩∧w.cell? ⟨b,o+j*2,none⟩=some (.int .i64 (((s.w.getD j (0,[])).1:Nat):Int))∧w.cell? ⟨b,o+j*2+1,none⟩=some vh∧SlB D w vh (s.w.getD j (0,[])).2:=by
 obtain ⟨ws,h1,h2⟩:=m.hw
 have h3:=ownsRow_slR h2
 have hn:n=s.w.length:=by obtain ⟨_,_,_,e,_⟩:=h3;injection e
 subst hn
 obtain ⟨b,o,ea,_,hc⟩:=slR_at h3 hj
 obtain ⟨p,hp,hp1,hp2⟩:=h1.at (List.getElem?_eq_getElem hj)
 obtain ⟨q1,q2⟩:=putC_at ws j p hp
 have e:s.w.getD j (0,[])=s.w[j]:=by simp [List.getD_eq_getElem?_getD,hj]
 rw [e]
 exact ⟨b,o,p.2,ea,by rw [←hp1,←q1,Nat.mul_comm];exact hc 0 (by decide),by rw [←q2,Nat.mul_comm,Nat.add_assoc];exact hc 1 (by decide),hp2⟩
theorem infoW2:(Tryz.prog.info? 79).map (·.size)=some 2:=by kernel_rfl
theorem infoWs:(Tryz.prog.info? 82).map (·.size)=some 1:=by kernel_rfl
def wRow (q:Nat) (v:Value):Array Value:=#[.int .i64 (q:Int),v]
theorem wRow_one (q:Nat) (a:Option Addr) (n c:Nat):(wRow q (.slice a n c)).all (·.oneCell')=true:=by simp [wRow,Value.oneCell']
theorem pv_nowait {F D:Foot} {br bb N:Nat} {w w2:World} {s:St6} {vw vs vt:Value} (h:PV F D br bb w s vw vs vt) (hN:N=s.n) (hA:At w2 br (pRow bb N (.slice none 0 0) vs vt) 84) (ho:∀ k,k≠br→w2.heap[k]?=w.heap[k]?)
 (hk:∀ B a,Below B a w→B≤br→Below B a w2):PV (grow F w w2) D br bb w2 { s with w:=[] } (.slice none 0 0) vs vt∧Chg F w w2:=
 pv_set (s':={ s with w:=[] }) h hN (Chg.refl _ _) hA ho hk (pm_nowait h.m) fun _ hk _=>.inl hk
end Sha
end Go.Proofs.YtddjdaocdfkgeaaGreatDoor
