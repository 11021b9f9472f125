/- The document's step: a block turns a state. -/
import Derived.Test.YtplmfmpbkjnbaaaGreatDoorBQ20
import Derived.Test.YtplmfmpbkjnbaaaGreatDoorBQ00
import Derived.Test.YtplmfmpbkjnbaaaGreatDoorBQ22
import Derived.Test.YtplmfmpbkjnbaaaGreatDoorBQ17
set_option maxRecDepth 100000
set_option maxHeartbeats 4000000
namespace Go.Proofs.YtplmfmpbkjnbaaaGreatDoor
namespace Sha
open Go.RowKit Mem
def Wl (w:World) (v:Value) (l:List (BitVec 32)):Prop:=∃ g c,v=.slice (some ⟨g,0,none⟩) l.length c∧g < w.heap.size∧∀ i,i < l.length→w.cell? ⟨g,i,none⟩=some (.int .u32 (V (l.getD i 0)))
def SRel (w:World) (Bk:Lb8) (v i:Value) (wr:World):Prop:=∃ t:Nat,t≤64∧i=.int .i64 t∧OwnV wr w.heap.size 23 v (u32s (sofar Bk t))∧Below w.heap.size w wr
def StepEnd (w:World) (H:List (BitVec 32)) (Bk:Lb8) (e:Ending) (w':World):Prop:=∃ v,e=.returned v∧OwnV w' w.heap.size 23 v (u32s (comp H Bk))∧Below w.heap.size w w'
def XRel (w:World) (H:List (BitVec 32)) (Bk:Lb8) (vw vx i:Value) (wr:World):Prop:=
 ∃ t:Nat,t≤64∧i=.int .i64 t∧Wl wr vx (rnds (sched Bk) (regOf H) t).list∧OwnV wr w.heap.size 23 vw (u32s (sched Bk))∧Below w.heap.size w wr
def ORel (w3:World) (L:List (BitVec 32)) (v i:Value) (wr:World):Prop:=
 ∃ t:Nat,t≤8∧i=.int .i64 t∧OwnV wr w3.heap.size 23 v (u32s (L.take t))∧Below w3.heap.size w3 wr
theorem regOf_list (H:List (BitVec 32)) (h:H.length=8):(regOf H).list=H:=by
 match H,h with
 | [_,_,_,_,_,_,_,_],_=>rfl
theorem list_len (r:Reg):r.list.length=8:=rfl
theorem OwnV.wl {w:World} {B:Nat} {e:TypeId} {v:Value} {l:List (BitVec 32)} (h:OwnV w B e v (u32s l)) (hl:l.length=8):Wl w v l:=by
 obtain ⟨a,c,rfl,_,hr⟩:=h.open
 obtain ⟨g,rfl,_,hg,hc⟩:=hr (by intro e;rw [←u32s_length,e] at hl;simp at hl)
 exact ⟨g,c,by rw [u32s_length],hg,fun i hi=>hc i _ (u32s_get l i hi)⟩
theorem wl_new (W:World) (l:List (BitVec 32)) (e:TypeId):Wl (W.alloc (.cells (u32s l).toArray e)) (.slice (some ⟨W.heap.size,0,none⟩) l.length l.length) l:=
 ⟨_,_,rfl,(at_new W _ e).lt,fun i hi=>by rw [(at_new W _ e).cell,List.getElem?_toArray];exact u32s_get l i hi⟩
theorem comp_len (H:List (BitVec 32)) (Bk:Lb8) (h:H.length=8):(comp H Bk).length=8:=by
 unfold comp
 rw [adds_length _ _ (by rw [list_len,h]),list_len]
theorem step_ref (H:List (BitVec 32)) (Bk:Lb8) (k s bv:Value) (w:World) (hk:Wl w k Kl) (hs:Wl w s H) (hb:Sl w bv Bk) (lH:H.length=8) (lB:Bk.length=64) :
 Calls Tryz.prog 138 #[k,s,bv] w (StepEnd w H Bk):=by
 obtain ⟨gk,ck,rfl,hgk,hkc⟩:=hk
 obtain ⟨gs,cs,rfl,hgs,hsc⟩:=hs
 obtain ⟨ab,cb,rfl,hbc,hbr⟩:=hb
 obtain ⟨gb,ob,rfl,hgb,hbcell⟩:=hbr (by intro h;rw [h] at lB;simp at lB)
 rw [lH] at hsc ⊢
 rw [lB] at hbcell ⊢
 have GK:=zh hgk;have KC:=zh hkc;have GS:=zh hgs;have SC:=zh hsc;have GB:=zh hgb;have BC:=zh hbcell
 clear hgk hkc hgs hsc hgb hbcell hbr hbc
 go_enter Tryz.func138,Tryz.ntmps138
 go_wp2_with fail
 go_loopw [7,8] (fun v i wr=>SRel w Bk v i wr) (fun _ i _=>64 - (intOf i).toNat)
 case atStart=>exact ⟨0,by omega,rfl,OwnV.nil _ _ _,Below.refl _ _⟩
 case round=>
  obtain ⟨t,ht,rfl,how,hbr⟩:=hrel
  by_cases hlt:t < 64
  ·by_cases h16:t < 16
   ·have hcb:∀ w',Below w.heap.size w w'→∀ (j:Nat) (x:BitVec 8),4*t+j < 64→x=Bk.getD (4*t+j) 0→w'.cell? ⟨gb,ob+(4*t+j),none⟩=some (.int .u8 (x.toNat:Int)):=fun w' h j x hj e=>by
     rw [h.cell (p:=⟨gb,ob+(4*t+j),none⟩) GB.out,e];exact BC.out _ hj
    obtain ⟨b0,he0⟩:∃ x,x=Bk.getD (4*t+0) 0:=⟨_,rfl⟩
    have l0:=b0.isLt
    obtain ⟨b1,he1⟩:∃ x,x=Bk.getD (4*t+1) 0:=⟨_,rfl⟩
    have l1:=b1.isLt
    obtain ⟨b2,he2⟩:∃ x,x=Bk.getD (4*t+2) 0:=⟨_,rfl⟩
    have l2:=b2.isLt
    obtain ⟨b3,he3⟩:∃ x,x=Bk.getD (4*t+3) 0:=⟨_,rfl⟩
    have l3:=b3.isLt
    have CB:=zh hcb;have E0:=zh he0;have E1:=zh he1;have E2:=zh he2;have E3:=zh he3;have OW:=zh (how.keep (w':=wr.drew) fun _ _=>rfl);have BR:=zh hbr;have WD:=zh (show (b0.toNat:Int)*16777216+(b1.toNat:Int)*65536+(b2.toNat:Int)*256+(b3.toNat:Int)=V (word Bk t) from (word_sum b0 b1 b2 b3).trans (by rw [he0,he1,he2,he3];rfl))
    clear hcb he0 he1 he2 he3 how hbr
    go_wp2_with fail
    refine wp_region_plan_in (fun w'=>Below w.heap.size w w') (.take 0 (.take 1 (.take 2 (.take 3 (.take 4 (.take 5 (.take 6 (.take 7 (.take 8 (.take 9 (.take 10 (.take 11 (.take 12 (.take 13 (.take 14 (.take 15 (.take 16 (.take 17 (.take 18 (.take 19 (.take 20 (.take 21 (.take 22 (.take 23 (.take 24 (.take 25 (.take 26 (.take 27 (.take 28 (.take 29 (.take 30 (.take 31 (.take 32 (.take 33 (.sole 34 (.sole 35 (.take 36 .done))))))))))))))))))))))))))))))))))))) (by kernel_rfl) (by kernel_rfl) (by kernel_rfl) BR.out.drew ?_
    have B:Hid (Below w.heap.size w wr.drew):=BR.out.drew
    generalize wr.drew=W at *
    iterate 3 ((first | refine Mem.pm1 ?_ | refine Mem.pm2 ?_ | refine Mem.pt ?_ | refine Mem.pf ?_);(simp only [Mem.zp,Mem.pb,Mem.pc]))
    refine plan_bin _ _ _ _ _ _ _ _ zr zr zr ze ze (fun wx=>o_imul _ _ _ _ 4 (t:Int) ((4*t+0:Nat):Int) (by omega) (by omega) (by omega) wx) ?_
    (simp only [Mem.zp,Mem.pb,Mem.pc])
    refine plan_index 63 5 _ _ gb ob 64 cb (4*t+0) zr zr zr ze ze (by omega) Tryz.underlying63 (by kernel_rfl) ?_
    (simp only [Mem.zp,Mem.pb,Mem.pc])
    refine plan_cell 5 _ ⟨gb,ob+(4*t+0),none⟩ (.int .u8 (b0.toNat:Int)) _ zr zr zr ze (fun w' hw'=>CB.out w' hw' 0 b0 (by omega) E0.out) Tryz.underlying5 zr ?_
    (simp only [Mem.zp,Mem.pb,Mem.pc])
    refine plan_conv _ _ _ (.int .u8 (b0.toNat:Int)) (.int .u32 (b0.toNat:Int)) zr zr zr ze (fun wx=>by go_simp;exact u32_id _ (by omega) (by omega)) ?_
    (simp only [Mem.zp,Mem.pb,Mem.pc])
    refine plan_bin _ _ _ _ _ _ _ _ zr zr zr ze ze (fun wx=>o_umul _ _ _ _ (b0.toNat:Int) 16777216 ((b0.toNat:Int)*16777216) rfl (by omega) (by omega) wx) ?_
    (simp only [Mem.zp,Mem.pb,Mem.pc])
    iterate 2 ((first | refine Mem.pm1 ?_ | refine Mem.pm2 ?_ | refine Mem.pt ?_ | refine Mem.pf ?_);(simp only [Mem.zp,Mem.pb,Mem.pc]))
    refine plan_bin _ _ _ _ _ _ _ _ zr zr zr ze ze (fun wx=>o_imul _ _ _ _ 4 (t:Int) ((4*t:Nat):Int) (by omega) (by omega) (by omega) wx) ?_
    (simp only [Mem.zp,Mem.pb,Mem.pc])
    refine plan_bin _ _ _ _ _ _ _ _ zr zr zr ze ze (fun wx=>o_iadd _ _ _ _ ((4*t:Nat):Int) 1 ((4*t+1:Nat):Int) (by omega) (by omega) (by omega) wx) ?_
    (simp only [Mem.zp,Mem.pb,Mem.pc])
    refine plan_index 63 5 _ _ gb ob 64 cb (4*t+1) zr zr zr ze ze (by omega) Tryz.underlying63 (by kernel_rfl) ?_
    (simp only [Mem.zp,Mem.pb,Mem.pc])
    refine plan_cell 5 _ ⟨gb,ob+(4*t+1),none⟩ (.int .u8 (b1.toNat:Int)) _ zr zr zr ze (fun w' hw'=>CB.out w' hw' 1 b1 (by omega) E1.out) Tryz.underlying5 zr ?_
    (simp only [Mem.zp,Mem.pb,Mem.pc])
    refine plan_conv _ _ _ (.int .u8 (b1.toNat:Int)) (.int .u32 (b1.toNat:Int)) zr zr zr ze (fun wx=>by go_simp;exact u32_id _ (by omega) (by omega)) ?_
    (simp only [Mem.zp,Mem.pb,Mem.pc])
    refine plan_bin _ _ _ _ _ _ _ _ zr zr zr ze ze (fun wx=>o_umul _ _ _ _ (b1.toNat:Int) 65536 ((b1.toNat:Int)*65536) rfl (by omega) (by omega) wx) ?_
    (simp only [Mem.zp,Mem.pb,Mem.pc])
    refine plan_bin _ _ _ _ _ _ _ _ zr zr zr ze ze (fun wx=>o_uadd _ _ _ _ ((b0.toNat:Int)*16777216) ((b1.toNat:Int)*65536) _ rfl (by omega) (by omega) wx) ?_
    (simp only [Mem.zp,Mem.pb,Mem.pc])
    iterate 2 ((first | refine Mem.pm1 ?_ | refine Mem.pm2 ?_ | refine Mem.pt ?_ | refine Mem.pf ?_);(simp only [Mem.zp,Mem.pb,Mem.pc]))
    refine plan_bin _ _ _ _ _ _ _ _ zr zr zr ze ze (fun wx=>o_imul _ _ _ _ 4 (t:Int) ((4*t:Nat):Int) (by omega) (by omega) (by omega) wx) ?_
    (simp only [Mem.zp,Mem.pb,Mem.pc])
    refine plan_bin _ _ _ _ _ _ _ _ zr zr zr ze ze (fun wx=>o_iadd _ _ _ _ ((4*t:Nat):Int) 2 ((4*t+2:Nat):Int) (by omega) (by omega) (by omega) wx) ?_
    (simp only [Mem.zp,Mem.pb,Mem.pc])
    refine plan_index 63 5 _ _ gb ob 64 cb (4*t+2) zr zr zr ze ze (by omega) Tryz.underlying63 (by kernel_rfl) ?_
    (simp only [Mem.zp,Mem.pb,Mem.pc])
    refine plan_cell 5 _ ⟨gb,ob+(4*t+2),none⟩ (.int .u8 (b2.toNat:Int)) _ zr zr zr ze (fun w' hw'=>CB.out w' hw' 2 b2 (by omega) E2.out) Tryz.underlying5 zr ?_
    (simp only [Mem.zp,Mem.pb,Mem.pc])
    refine plan_conv _ _ _ (.int .u8 (b2.toNat:Int)) (.int .u32 (b2.toNat:Int)) zr zr zr ze (fun wx=>by go_simp;exact u32_id _ (by omega) (by omega)) ?_
    (simp only [Mem.zp,Mem.pb,Mem.pc])
    refine plan_bin _ _ _ _ _ _ _ _ zr zr zr ze ze (fun wx=>o_umul _ _ _ _ (b2.toNat:Int) 256 ((b2.toNat:Int)*256) rfl (by omega) (by omega) wx) ?_
    (simp only [Mem.zp,Mem.pb,Mem.pc])
    refine plan_bin _ _ _ _ _ _ _ _ zr zr zr ze ze (fun wx=>o_uadd _ _ _ _ ((b0.toNat:Int)*16777216+(b1.toNat:Int)*65536) ((b2.toNat:Int)*256) _ rfl (by omega) (by omega) wx) ?_
    (simp only [Mem.zp,Mem.pb,Mem.pc])
    iterate 2 ((first | refine Mem.pm1 ?_ | refine Mem.pm2 ?_ | refine Mem.pt ?_ | refine Mem.pf ?_);(simp only [Mem.zp,Mem.pb,Mem.pc]))
    refine plan_bin _ _ _ _ _ _ _ _ zr zr zr ze ze (fun wx=>o_imul _ _ _ _ 4 (t:Int) ((4*t:Nat):Int) (by omega) (by omega) (by omega) wx) ?_
    (simp only [Mem.zp,Mem.pb,Mem.pc])
    refine plan_bin _ _ _ _ _ _ _ _ zr zr zr ze ze (fun wx=>o_iadd _ _ _ _ ((4*t:Nat):Int) 3 ((4*t+3:Nat):Int) (by omega) (by omega) (by omega) wx) ?_
    (simp only [Mem.zp,Mem.pb,Mem.pc])
    refine plan_index 63 5 _ _ gb ob 64 cb (4*t+3) zr zr zr ze ze (by omega) Tryz.underlying63 (by kernel_rfl) ?_
    (simp only [Mem.zp,Mem.pb,Mem.pc])
    refine plan_cell 5 _ ⟨gb,ob+(4*t+3),none⟩ (.int .u8 (b3.toNat:Int)) _ zr zr zr ze (fun w' hw'=>CB.out w' hw' 3 b3 (by omega) E3.out) Tryz.underlying5 zr ?_
    (simp only [Mem.zp,Mem.pb,Mem.pc])
    refine plan_conv _ _ _ (.int .u8 (b3.toNat:Int)) (.int .u32 (b3.toNat:Int)) zr zr zr ze (fun wx=>by go_simp;exact u32_id _ (by omega) (by omega)) ?_
    (simp only [Mem.zp,Mem.pb,Mem.pc])
    refine plan_bin _ _ _ _ _ _ _ _ zr zr zr ze ze (fun wx=>o_uadd _ _ _ _ ((b0.toNat:Int)*16777216+(b1.toNat:Int)*65536+(b2.toNat:Int)*256) (b3.toNat:Int) (V (word Bk t)) WD.out (V_lo _) (V_hi _) wx) ?_
    (simp only [Mem.zp,Mem.pb,Mem.pc])
    refine plan_slice 216 23 1 _ #[.int .u32 (V (word Bk t))] zr zr zr Tryz.underlying216 (by kernel_rfl) (B.out.alloc B.out.size _) ?_
    (simp only [Mem.zp,Mem.pb,Mem.pc])
    refine plan_append_lit _ _ 216 zr zr zr (.int .u32 (V (word Bk t))) (.int .u32 0) 4 elemW zr ze OW.out ze zr (by rw [u32s_length,sofar_length];omega) (by rw [u32s_length,sofar_length];omega) B.out.size ?_
    intro v' w' ho' _ hb' _ _
    refine ⟨B.out.trans hb',?_⟩
    have OW':=zh ho';have BR':=zh (B.out.trans hb')
    clear ho' hb'
    (simp only [Mem.zp,Mem.pb,Mem.pc])
    (first | refine Mem.pm1 ?_ | refine Mem.pm2 ?_ | refine Mem.pt ?_ | refine Mem.pf ?_)
    (simp only [Mem.zp,Mem.pb,Mem.pc])
    refine plan_nil ?_
    go_wp2_with fail
    go_roundw
    case rel=>exact ⟨t+1,by omega,by go_num,by rw [sofar_word _ _ h16];simpa [u32s] using OW'.out,BR'.out⟩
    case measure=>simp [intOf];omega
   ·-- t from 16 on
    obtain ⟨a1,c1,hv1,_,hcc⟩:=how.open
    have hls:(u32s (sofar Bk t)).length=t:=by rw [u32s_length,sofar_length]
    obtain ⟨g1,rfl,hg1,hg1l,hcell⟩:=hcc (by intro e;rw [e] at hls;simp at hls;omega)
    rw [hls] at hv1
    subst hv1
    have hcl:∀ k:Nat,k < t→wr.cell? ⟨g1,0+k,none⟩=some (.int .u32 (V ((sofar Bk t).getD k 0))):=fun k hk=>by rw [Nat.zero_add];exact hcell k _ (u32s_get _ k (by rw [sofar_length];exact hk))
    obtain ⟨y,hy⟩:∃ y,y=(sofar Bk t).getD (t - 2) 0:=⟨_,rfl⟩
    obtain ⟨x,hx⟩:∃ x,x=(sofar Bk t).getD (t - 15) 0:=⟨_,rfl⟩
    obtain ⟨m7,hm7⟩:∃ x,x=(sofar Bk t).getD (t - 7) 0:=⟨_,rfl⟩
    obtain ⟨m16,hm16⟩:∃ x,x=(sofar Bk t).getD (t - 16) 0:=⟨_,rfl⟩
    have hnx:sofar Bk (t+1)=sofar Bk t++[s1 y+m7+s0 x+m16]:=by rw [sofar_more _ _ (by omega),nextW,sofar_length,hy,hx,hm7,hm16]
    have hcx:=hcl (t - 15) (by omega);have hcy:=hcl (t - 2) (by omega);have hc7:=hcl (t - 7) (by omega);have hc16:=hcl (t - 16) (by omega)
    rw [←hx] at hcx;rw [←hy] at hcy;rw [←hm7] at hc7;rw [←hm16] at hc16
    have NX:=zh hnx;have CX:=zh hcx;have CY:=zh hcy;have C7:=zh hc7;have C16:=zh hc16;have G1:=zh hg1l
    have T7:=zh (fun w=>rturn_any x 7 7 w (by decide) (by decide) (by decide));have T18:=zh (fun w=>rturn_any x 18 18 w (by decide) (by decide) (by decide))
    have T17:=zh (fun w=>rturn_any y 17 17 w (by decide) (by decide) (by decide));have T19:=zh (fun w=>rturn_any y 19 19 w (by decide) (by decide) (by decide))
    have hx7:(u32s (sofar Bk t))[t - 7]?=some (.int .u32 (V m7)):=by rw [u32s_get _ _ (by rw [sofar_length];omega),hm7]
    have hx16:(u32s (sofar Bk t))[t - 16]?=some (.int .u32 (V m16)):=by rw [u32s_get _ _ (by rw [sofar_length];omega),hm16]
    have X7:=zh hx7;have X16:=zh hx16;clear hx7 hx16
    have h16':16≤t:=by omega
    have OW:=zh how;have BR:=zh hbr;have LS:=zh hls
    clear hcl hcell hcc hx hy hm7 hm16 hnx hcx hcy hc7 hc16 how hbr hls hg1l
    go_wp2_with fail
    refine wp_region_plan (.take 0 (.take 1 (.take 2 (.take 3 (.take 4 (.take 5 (.take 6 (.take 7 (.take 8 (.take 9 (.take 10 (.take 11 .done)))))))))))) (by kernel_rfl) (by kernel_rfl) (by kernel_rfl) ?_
    iterate 2 ((first | refine Mem.pm1 ?_ | refine Mem.pm2 ?_ | refine Mem.pt ?_ | refine Mem.pf ?_);(simp only [Mem.zp,Mem.pb,Mem.pc]))
    refine plan_bin _ _ _ _ _ _ _ _ zr zr zr ze ze (fun wx=>o_isub _ _ _ _ (t:Int) 15 ((t - 15:Nat):Int) (by omega) (by omega) (by omega) wx) ?_
    (simp only [Mem.zp,Mem.pb,Mem.pc])
    refine plan_index 216 23 _ _ g1 0 t c1 (t - 15) zr zr zr ze ze (by omega) Tryz.underlying216 (by kernel_rfl) ?_
    (simp only [Mem.zp,Mem.pb,Mem.pc])
    refine plan_cell 23 _ _ _ _ zr zr zr ze (fun w' hw'=>(World.cell?_of_block (a:=⟨g1,_,none⟩) (hw'.block g1 G1.out)).trans CX.out) Tryz.underlying23 zr ?_
    (simp only [Mem.zp,Mem.pb,Mem.pc])
    iterate 2 ((first | refine Mem.pm1 ?_ | refine Mem.pm2 ?_ | refine Mem.pt ?_ | refine Mem.pf ?_);(simp only [Mem.zp,Mem.pb,Mem.pc]))
    refine plan_bin _ _ _ _ _ _ _ _ zr zr zr ze ze (fun wx=>o_isub _ _ _ _ (t:Int) 2 ((t - 2:Nat):Int) (by omega) (by omega) (by omega) wx) ?_
    (simp only [Mem.zp,Mem.pb,Mem.pc])
    refine plan_index 216 23 _ _ g1 0 t c1 (t - 2) zr zr zr ze ze (by omega) Tryz.underlying216 (by kernel_rfl) ?_
    (simp only [Mem.zp,Mem.pb,Mem.pc])
    refine plan_cell 23 _ _ _ _ zr zr zr ze (fun w' hw'=>(World.cell?_of_block (a:=⟨g1,_,none⟩) (hw'.block g1 G1.out)).trans CY.out) Tryz.underlying23 zr ?_
    (simp only [Mem.zp,Mem.pb,Mem.pc])
    iterate 2 ((first | refine Mem.pm1 ?_ | refine Mem.pm2 ?_ | refine Mem.pt ?_ | refine Mem.pf ?_);(simp only [Mem.zp,Mem.pb,Mem.pc]))
    refine plan_nil ?_
    have C7p:Hid (wr.drew.cell? ⟨g1,0+(t - 7),none⟩=some (.int .u32 (V m7))):=C7.out;have C16p:Hid (wr.drew.cell? ⟨g1,0+(t - 16),none⟩=some (.int .u32 (V m16))):=C16.out;have G1p:Hid (g1 < wr.drew.heap.size):=G1.out;have OWp:=zh (OW.out.keep (w':=wr.drew) fun _ _=>rfl);have BRp:Hid (Below w.heap.size w wr.drew):=BR.out.drew
    clear C7 C16 G1 OW BR CX CY
    generalize wr.drew=W1 at *
    go_wp2_with (first | (go_at_call 157;with_reducible refine (T7.out _).mono ?_;rintro e w' ⟨rfl,rfl⟩) | (go_at_call 157;with_reducible refine (T18.out _).mono ?_;rintro e w' ⟨rfl,rfl⟩) | (go_at_call 157;with_reducible refine (T17.out _).mono ?_;rintro e w' ⟨rfl,rfl⟩) | (go_at_call 157;with_reducible refine (T19.out _).mono ?_;rintro e w' ⟨rfl,rfl⟩))
    rw [s0_val,s1_val]
    refine wp_region_plan_in (fun w'=>Below w.heap.size w w'∧w'.cell? ⟨g1,0+(t - 7),none⟩=some (.int .u32 (V m7))∧w'.cell? ⟨g1,0+(t - 16),none⟩=some (.int .u32 (V m16))) (.take 0 (.take 1 (.take 2 (.take 3 (.take 4 (.take 5 (.take 6 (.take 7 (.take 8 (.take 9 (.take 10 (.take 11 (.take 12 (.take 13 (.take 14 (.take 15 (.sole 16 (.sole 17 (.take 18 .done))))))))))))))))))) (by kernel_rfl) (by kernel_rfl) (by kernel_rfl) ⟨BRp.out.drew,C7p.out,C16p.out⟩ ?_
    have B:Hid (Below w.heap.size w W1.drew):=BRp.out.drew;have D7:Hid (W1.drew.cell? ⟨g1,0+(t - 7),none⟩=some (.int .u32 (V m7))):=C7p.out;have D16:Hid (W1.drew.cell? ⟨g1,0+(t - 16),none⟩=some (.int .u32 (V m16))):=C16p.out;have GD:Hid (g1 < W1.drew.heap.size):=G1p.out;have OW2:=zh (OWp.out.keep (w':=W1.drew) fun _ _=>rfl)
    clear BRp C7p C16p G1p OWp
    generalize W1.drew=W2 at *
    iterate 4 ((first | refine Mem.pm1 ?_ | refine Mem.pm2 ?_ | refine Mem.pt ?_ | refine Mem.pf ?_);(simp only [Mem.zp,Mem.pb,Mem.pc]))
    refine plan_bin _ _ _ _ _ _ _ _ zr zr zr ze ze (fun wx=>o_isub _ _ _ _ (t:Int) 7 ((t - 7:Nat):Int) (by omega) (by omega) (by omega) wx) ?_
    (simp only [Mem.zp,Mem.pb,Mem.pc])
    refine plan_index 216 23 _ _ g1 0 t c1 (t - 7) zr zr zr ze ze (by omega) Tryz.underlying216 (by kernel_rfl) ?_
    (simp only [Mem.zp,Mem.pb,Mem.pc])
    refine plan_cell 23 _ _ _ _ zr zr zr ze (fun w' hw'=>hw'.2.1) Tryz.underlying23 zr ?_
    (simp only [Mem.zp,Mem.pb,Mem.pc])
    refine plan_bin _ _ _ _ _ _ _ _ zr zr zr ze ze (fun wx=>o_add _ _ _ _ _ _ wx) ?_
    (simp only [Mem.zp,Mem.pb,Mem.pc])
    (first | refine Mem.pm1 ?_ | refine Mem.pm2 ?_ | refine Mem.pt ?_ | refine Mem.pf ?_)
    (simp only [Mem.zp,Mem.pb,Mem.pc])
    refine plan_bin _ _ _ _ _ _ _ _ zr zr zr ze ze (fun wx=>o_add _ _ _ _ _ _ wx) ?_
    (simp only [Mem.zp,Mem.pb,Mem.pc])
    iterate 2 ((first | refine Mem.pm1 ?_ | refine Mem.pm2 ?_ | refine Mem.pt ?_ | refine Mem.pf ?_);(simp only [Mem.zp,Mem.pb,Mem.pc]))
    refine plan_bin _ _ _ _ _ _ _ _ zr zr zr ze ze (fun wx=>o_isub _ _ _ _ (t:Int) 16 ((t - 16:Nat):Int) (by omega) (by omega) (by omega) wx) ?_
    (simp only [Mem.zp,Mem.pb,Mem.pc])
    refine plan_index 216 23 _ _ g1 0 t c1 (t - 16) zr zr zr ze ze (by omega) Tryz.underlying216 (by kernel_rfl) ?_
    (simp only [Mem.zp,Mem.pb,Mem.pc])
    refine plan_cell 23 _ _ _ _ zr zr zr ze (fun w' hw'=>hw'.2.2) Tryz.underlying23 zr ?_
    (simp only [Mem.zp,Mem.pb,Mem.pc])
    refine plan_bin _ _ _ _ _ _ _ _ zr zr zr ze ze (fun wx=>o_add _ _ _ _ _ _ wx) ?_
    (simp only [Mem.zp,Mem.pb,Mem.pc])
    refine plan_slice 216 23 1 _ #[.int .u32 (V (s1 y+m7+s0 x+m16))] zr zr zr Tryz.underlying216 (by kernel_rfl) ⟨B.out.alloc B.out.size _,(cell_alloc (p:=⟨g1,_,none⟩) GD.out).trans D7.out,(cell_alloc (p:=⟨g1,_,none⟩) GD.out).trans D16.out⟩ ?_
    (simp only [Mem.zp,Mem.pb,Mem.pc])
    refine plan_append_lit _ _ 216 zr zr zr (.int .u32 (V (s1 y+m7+s0 x+m16))) (.int .u32 0) 4 elemW zr ze OW2.out ze zr (by rw [LS.out];omega) (by rw [LS.out];omega) B.out.size ?_
    intro v' w' ho' _ hb' _ hst
    refine ⟨⟨B.out.trans hb',by rw [Nat.zero_add];exact hst g1 (t - 7) _ rfl X7.out,by rw [Nat.zero_add];exact hst g1 (t - 16) _ rfl X16.out⟩,?_⟩
    have OW3:=zh ho';have BR':=zh (B.out.trans hb')
    clear ho' hb' hst
    (simp only [Mem.zp,Mem.pb,Mem.pc])
    (first | refine Mem.pm1 ?_ | refine Mem.pm2 ?_ | refine Mem.pt ?_ | refine Mem.pf ?_)
    (simp only [Mem.zp,Mem.pb,Mem.pc])
    refine plan_nil ?_
    go_wp2_with fail
    go_roundw
    case rel=>exact ⟨t+1,by omega,by go_num,by rw [NX.out];simpa [u32s] using OW3.out,BR'.out⟩
    case measure=>simp [intOf];omega
  ·have ht64:t=64:=by omega
   have hso:sofar Bk t=sched Bk:=by rw [ht64,sofar_all]
   rw [hso] at how
   have hs8:Rd wr (.slice (some ⟨gs,0,none⟩) 8 cs) (u32s H):=⟨_,cs,by rw [u32s_length,lH],fun _=>⟨_,rfl,fun i u hu=>by
    have hi:i < 8:=by
     have:=(List.getElem?_eq_some_iff.1 hu).1
     rwa [u32s_length,lH] at this
    rw [Addr.add_mid,Nat.zero_add,hbr.cell (p:=⟨gs,i,none⟩) GS.out,SC.out i hi,←u32s_get H i (by rw [lH];exact hi),hu]⟩⟩
   have S8:=zh hs8;have OW:=zh how;have BR:=zh hbr;have hge:¬ (t:Int) < 64:=by omega
   clear hs8 how hbr hso ht64 hlt ht
   go_wp2_with (first | (at_builtin;refine wpList_append_rd zr _ _ 216 zr _ (u32s H) (.int .u32 0) 4 elemW zr zr (OwnV.nil _ w.heap.size _) zr S8.out (u32s_cells H) (by simp [u32s_length,lH]) (by simp [u32s_length,lH]) BR.out.size ?_;intro v' w' ho' hk' hb' _;have OX:=zh ho';have OW':=zh (OW.out.keep fun g hg=>hk' g (OW.out.lt g hg).2 (by simp [Value.ownBlock]));have BR':=zh (BR.out.trans hb');clear ho' hk' hb'))
   obtain ⟨wo,rfl⟩:∃ wo:World,wo=w':=⟨_,rfl⟩
   go_loopw [13,14] (fun v i wr=>XRel w H Bk u7 v i wr) (fun _ i _=>64 - (intOf i).toNat)
   case atStart=>exact ⟨0,by omega,rfl,by rw [show rnds (sched Bk) (regOf H) 0=regOf H from rfl,regOf_list H lH];exact OwnV.wl (by simpa using OX.out) lH,OW'.out,BR'.out⟩
   case round=>
    clear OX OW' BR' S8 OW BR
    obtain ⟨t2,ht,rfl,hwl,how,hbr⟩:=hrel
    obtain ⟨r,hr⟩:∃ r,r=rnds (sched Bk) (regOf H) t2:=⟨_,rfl⟩
    rw [←hr] at hwl
    by_cases hlt:t2 < 64
    ·obtain ⟨gx,cx,rfl,hgx,hxc⟩:=hwl
     rw [list_len]
     obtain ⟨aw,cw,hvw,_,hwc⟩:=how.open
     have hls:(u32s (sched Bk)).length=64:=by rw [u32s_length,←sofar_all,sofar_length]
     obtain ⟨gw,rfl,_,hgw,hwcell⟩:=hwc (by intro e;rw [e] at hls;simp at hls)
     rw [hls] at hvw
     subst hvw
     obtain ⟨K,hK⟩:∃ x,x=Kl.getD t2 0:=⟨_,rfl⟩
     obtain ⟨Wt,hW⟩:∃ x,x=(sched Bk).getD t2 0:=⟨_,rfl⟩
     have hnx:rnds (sched Bk) (regOf H) (t2+1)=rnd K Wt r:=by rw [hK,hW,hr];rfl
     have ck:wr.cell? ⟨gk,0+t2,none⟩=some (.int .u32 (V K)):=by rw [Nat.zero_add,hbr.cell (p:=⟨gk,t2,none⟩) GK.out,hK];exact KC.out t2 hlt
     have hgk':gk < wr.heap.size:=Nat.lt_of_lt_of_le GK.out hbr.size
     have cwt:wr.cell? ⟨gw,0+t2,none⟩=some (.int .u32 (V Wt)):=by rw [Nat.zero_add,hW];exact hwcell t2 _ (u32s_get _ t2 (by rw [u32s_length] at hls;omega))
     have X0:Hid (wr.cell? ⟨gx,0+0,none⟩=some (.int .u32 (V r.a))):=hxc 0 (by rw [list_len];omega)
     have X1:Hid (wr.cell? ⟨gx,0+1,none⟩=some (.int .u32 (V r.b))):=hxc 1 (by rw [list_len];omega)
     have X2:Hid (wr.cell? ⟨gx,0+2,none⟩=some (.int .u32 (V r.c))):=hxc 2 (by rw [list_len];omega)
     have X3:Hid (wr.cell? ⟨gx,0+3,none⟩=some (.int .u32 (V r.d))):=hxc 3 (by rw [list_len];omega)
     have X4:Hid (wr.cell? ⟨gx,0+4,none⟩=some (.int .u32 (V r.e))):=hxc 4 (by rw [list_len];omega)
     have X5:Hid (wr.cell? ⟨gx,0+5,none⟩=some (.int .u32 (V r.f))):=hxc 5 (by rw [list_len];omega)
     have X6:Hid (wr.cell? ⟨gx,0+6,none⟩=some (.int .u32 (V r.g))):=hxc 6 (by rw [list_len];omega)
     have X7:Hid (wr.cell? ⟨gx,0+7,none⟩=some (.int .u32 (V r.h))):=hxc 7 (by rw [list_len];omega)
     have CK:=zh ck;have CW:=zh cwt;have NX:=zh hnx;have GX:=zh hgx;have GW:=zh hgw;have GK':=zh hgk';have OW:=zh how;have BR:=zh hbr
     clear ck cwt hnx hgx hgw hgk' how hbr hxc hwc hwcell hls hr hK hW
     have T6:=zh (fun w=>rturn_any r.e 6 6 w (by decide) (by decide) (by decide))
     have T11:=zh (fun w=>rturn_any r.e 11 11 w (by decide) (by decide) (by decide))
     have T25:=zh (fun w=>rturn_any r.e 25 25 w (by decide) (by decide) (by decide))
     have T2:=zh (fun w=>rturn_any r.a 2 2 w (by decide) (by decide) (by decide))
     have T13:=zh (fun w=>rturn_any r.a 13 13 w (by decide) (by decide) (by decide))
     have T22:=zh (fun w=>rturn_any r.a 22 22 w (by decide) (by decide) (by decide))
     have hlt':(t2:Int) < 64:=by omega
     have hKl:64≤Kl.length:=by decide
     go_wp2_with fail
     refine wp_region_plan_in (fun w'=>Below wr.heap.size wr w') (.take 0 (.take 1 (.take 2 (.take 3 (.take 4 (.take 5 (.take 6 (.take 7 .done)))))))) (by kernel_rfl) (by kernel_rfl) (by kernel_rfl) (Below.refl _ _).drew ?_
     have B:Hid (Below wr.heap.size wr wr.drew):=(Below.refl _ _).drew
     generalize wr.drew=W at *
     (first | refine Mem.pm1 ?_ | refine Mem.pm2 ?_ | refine Mem.pt ?_ | refine Mem.pf ?_)
     (simp only [Mem.zp,Mem.pb,Mem.pc])
     refine plan_index 216 23 _ _ gx 0 8 cx 0 zr zr zr ze zr (by omega) Tryz.underlying216 (by kernel_rfl) ?_
     (simp only [Mem.zp,Mem.pb,Mem.pc])
     refine plan_cell 23 _ _ _ _ zr zr zr ze (fun w' hw'=>(hw'.cell (p:=⟨_,_,none⟩) GX.out).trans X0.out) Tryz.underlying23 zr ?_
     (simp only [Mem.zp,Mem.pb,Mem.pc])
     (first | refine Mem.pm1 ?_ | refine Mem.pm2 ?_ | refine Mem.pt ?_ | refine Mem.pf ?_)
     (simp only [Mem.zp,Mem.pb,Mem.pc])
     refine plan_index 216 23 _ _ gx 0 8 cx 4 zr zr zr ze zr (by omega) Tryz.underlying216 (by kernel_rfl) ?_
     (simp only [Mem.zp,Mem.pb,Mem.pc])
     refine plan_cell 23 _ _ _ _ zr zr zr ze (fun w' hw'=>(hw'.cell (p:=⟨_,_,none⟩) GX.out).trans X4.out) Tryz.underlying23 zr ?_
     (simp only [Mem.zp,Mem.pb,Mem.pc])
     iterate 2 ((first | refine Mem.pm1 ?_ | refine Mem.pm2 ?_ | refine Mem.pt ?_ | refine Mem.pf ?_);(simp only [Mem.zp,Mem.pb,Mem.pc]))
     refine plan_nil ?_
     go_wp2_with fail
     refine wp_region_plan_in (fun w'=>Below wr.heap.size wr w') (.take 0 (.take 1 (.take 2 (.take 3 (.take 5 (.take 8 (.take 12 (.take 13 (.take 14 (.take 15 (.take 16 (.take 17 (.take 18 (.take 19 (.take 20 (.take 21 (.take 22 (.take 23 (.take 25 (.take 26 (.take 27 (.take 28 (.take 30 (.take 31 (.take 32 (.take 33 (.sole 4 (.sole 6 (.take 7 (.sole 9 (.take 10 (.take 11 (.take 24 (.take 29 (.take 34 (.take 35 .done)))))))))))))))))))))))))))))))))))) (by kernel_rfl) (by kernel_rfl) (by kernel_rfl) B.out.drew ?_
     replace B:=zh B.out.drew
     generalize World.drew _=W at *
     (first | refine Mem.pm1 ?_ | refine Mem.pm2 ?_ | refine Mem.pt ?_ | refine Mem.pf ?_)
     (simp only [Mem.zp,Mem.pb,Mem.pc])
     refine plan_index 216 23 _ _ gx 0 8 cx 7 zr zr zr ze zr (by omega) Tryz.underlying216 (by kernel_rfl) ?_
     (simp only [Mem.zp,Mem.pb,Mem.pc])
     refine plan_cell 23 _ _ _ _ zr zr zr ze (fun w' hw'=>(hw'.cell (p:=⟨_,_,none⟩) GX.out).trans X7.out) Tryz.underlying23 zr ?_
     (simp only [Mem.zp,Mem.pb,Mem.pc])
     iterate 5 ((first | refine Mem.pm1 ?_ | refine Mem.pm2 ?_ | refine Mem.pt ?_ | refine Mem.pf ?_);(simp only [Mem.zp,Mem.pb,Mem.pc]))
     refine plan_index 216 23 _ _ gx 0 8 cx 5 zr zr zr ze zr (by omega) Tryz.underlying216 (by kernel_rfl) ?_
     (simp only [Mem.zp,Mem.pb,Mem.pc])
     refine plan_cell 23 _ _ _ _ zr zr zr ze (fun w' hw'=>(hw'.cell (p:=⟨_,_,none⟩) GX.out).trans X5.out) Tryz.underlying23 zr ?_
     (simp only [Mem.zp,Mem.pb,Mem.pc])
     refine plan_bin _ _ _ _ _ _ _ _ zr zr zr ze ze (fun wx=>o_and _ _ _ _ _ _ wx) ?_
     (simp only [Mem.zp,Mem.pb,Mem.pc])
     (first | refine Mem.pm1 ?_ | refine Mem.pm2 ?_ | refine Mem.pt ?_ | refine Mem.pf ?_)
     (simp only [Mem.zp,Mem.pb,Mem.pc])
     refine plan_bin _ _ _ _ _ _ _ _ zr zr zr ze ze (fun wx=>o_not _ _ _ _ _ wx) ?_
     (simp only [Mem.zp,Mem.pb,Mem.pc])
     (first | refine Mem.pm1 ?_ | refine Mem.pm2 ?_ | refine Mem.pt ?_ | refine Mem.pf ?_)
     (simp only [Mem.zp,Mem.pb,Mem.pc])
     refine plan_index 216 23 _ _ gx 0 8 cx 6 zr zr zr ze zr (by omega) Tryz.underlying216 (by kernel_rfl) ?_
     (simp only [Mem.zp,Mem.pb,Mem.pc])
     refine plan_cell 23 _ _ _ _ zr zr zr ze (fun w' hw'=>(hw'.cell (p:=⟨_,_,none⟩) GX.out).trans X6.out) Tryz.underlying23 zr ?_
     (simp only [Mem.zp,Mem.pb,Mem.pc])
     refine plan_bin _ _ _ _ _ _ _ _ zr zr zr ze ze (fun wx=>o_and _ _ _ _ _ _ wx) ?_
     (simp only [Mem.zp,Mem.pb,Mem.pc])
     refine plan_bin _ _ _ _ _ _ _ _ zr zr zr ze ze (fun wx=>o_xor _ _ _ _ _ _ wx) ?_
     (simp only [Mem.zp,Mem.pb,Mem.pc])
     iterate 2 ((first | refine Mem.pm1 ?_ | refine Mem.pm2 ?_ | refine Mem.pt ?_ | refine Mem.pf ?_);(simp only [Mem.zp,Mem.pb,Mem.pc]))
     refine plan_index 216 23 _ _ gk 0 Kl.length ck t2 zr zr zr ze ze (by omega) Tryz.underlying216 (by kernel_rfl) ?_
     (simp only [Mem.zp,Mem.pb,Mem.pc])
     refine plan_cell 23 _ _ _ _ zr zr zr ze (fun w' hw'=>(hw'.cell (p:=⟨_,_,none⟩) GK'.out).trans CK.out) Tryz.underlying23 zr ?_
     (simp only [Mem.zp,Mem.pb,Mem.pc])
     iterate 2 ((first | refine Mem.pm1 ?_ | refine Mem.pm2 ?_ | refine Mem.pt ?_ | refine Mem.pf ?_);(simp only [Mem.zp,Mem.pb,Mem.pc]))
     refine plan_index 216 23 _ _ gw 0 64 cw t2 zr zr zr ze ze (by omega) Tryz.underlying216 (by kernel_rfl) ?_
     (simp only [Mem.zp,Mem.pb,Mem.pc])
     refine plan_cell 23 _ _ _ _ zr zr zr ze (fun w' hw'=>(hw'.cell (p:=⟨_,_,none⟩) GW.out).trans CW.out) Tryz.underlying23 zr ?_
     (simp only [Mem.zp,Mem.pb,Mem.pc])
     refine plan_call 157 _ _ #[.int .u32 (V r.e),.int .i64 6] (by kernel_rfl) zr zr zr (by first | exact Mem.ev_none _ | (simp only [List.map_toArray,List.map_cons,List.map_nil,Mem.ev_tmp,List.getD_cons_succ,List.getD_cons_zero] <;> rfl)) ?_
     with_reducible refine (T6.out _).mono ?_
     rintro e W ⟨rfl,rfl⟩
     refine ⟨_,rfl,B.out,?_⟩
     (simp only [Mem.zp,Mem.pb,Mem.pc])
     refine plan_call 157 _ _ #[.int .u32 (V r.e),.int .i64 11] (by kernel_rfl) zr zr zr (by first | exact Mem.ev_none _ | (simp only [List.map_toArray,List.map_cons,List.map_nil,Mem.ev_tmp,List.getD_cons_succ,List.getD_cons_zero] <;> rfl)) ?_
     with_reducible refine (T11.out _).mono ?_
     rintro e W ⟨rfl,rfl⟩
     refine ⟨_,rfl,B.out,?_⟩
     (simp only [Mem.zp,Mem.pb,Mem.pc])
     refine plan_bin _ _ _ _ _ _ _ _ zr zr zr ze ze (fun wx=>o_xor _ _ _ _ _ _ wx) ?_
     (simp only [Mem.zp,Mem.pb,Mem.pc])
     refine plan_call 157 _ _ #[.int .u32 (V r.e),.int .i64 25] (by kernel_rfl) zr zr zr (by first | exact Mem.ev_none _ | (simp only [List.map_toArray,List.map_cons,List.map_nil,Mem.ev_tmp,List.getD_cons_succ,List.getD_cons_zero] <;> rfl)) ?_
     with_reducible refine (T25.out _).mono ?_
     rintro e W ⟨rfl,rfl⟩
     refine ⟨_,rfl,B.out,?_⟩
     (simp only [Mem.zp,Mem.pb,Mem.pc])
     refine plan_bin _ _ _ _ _ _ _ _ zr zr zr ze ze (fun wx=>o_xor _ _ _ _ _ _ wx) ?_
     (simp only [Mem.zp,Mem.pb,Mem.pc])
     refine plan_bin _ _ _ _ _ _ _ _ zr zr zr ze ze (fun wx=>o_add _ _ _ _ _ _ wx) ?_
     (simp only [Mem.zp,Mem.pb,Mem.pc])
     refine plan_bin _ _ _ _ _ _ _ _ zr zr zr ze ze (fun wx=>o_add _ _ _ _ _ _ wx) ?_
     (simp only [Mem.zp,Mem.pb,Mem.pc])
     refine plan_bin _ _ _ _ _ _ _ _ zr zr zr ze ze (fun wx=>o_add _ _ _ _ _ _ wx) ?_
     (simp only [Mem.zp,Mem.pb,Mem.pc])
     refine plan_bin _ _ _ _ _ _ _ _ zr zr zr ze ze (fun wx=>o_add _ _ _ _ _ _ wx) ?_
     (simp only [Mem.zp,Mem.pb,Mem.pc])
     (first | refine Mem.pm1 ?_ | refine Mem.pm2 ?_ | refine Mem.pt ?_ | refine Mem.pf ?_)
     (simp only [Mem.zp,Mem.pb,Mem.pc])
     refine plan_nil ?_
     go_wp2_with fail
     refine wp_region_plan_in (fun w'=>Below wr.heap.size wr w') (.take 0 (.take 2 (.take 5 (.take 8 (.take 9 (.take 10 (.take 11 (.take 12 (.take 13 (.take 14 (.take 15 (.take 16 (.take 17 (.take 18 (.take 19 (.take 20 (.take 21 (.take 22 (.take 23 (.take 24 (.take 25 (.take 26 (.sole 1 (.sole 3 (.take 4 (.sole 6 (.take 7 (.take 27 (.take 28 .done))))))))))))))))))))))))))))) (by kernel_rfl) (by kernel_rfl) (by kernel_rfl) B.out.drew ?_
     replace B:=zh B.out.drew
     generalize World.drew _=W at *
     iterate 5 ((first | refine Mem.pm1 ?_ | refine Mem.pm2 ?_ | refine Mem.pt ?_ | refine Mem.pf ?_);(simp only [Mem.zp,Mem.pb,Mem.pc]))
     refine plan_index 216 23 _ _ gx 0 8 cx 1 zr zr zr ze zr (by omega) Tryz.underlying216 (by kernel_rfl) ?_
     (simp only [Mem.zp,Mem.pb,Mem.pc])
     refine plan_cell 23 _ _ _ _ zr zr zr ze (fun w' hw'=>(hw'.cell (p:=⟨_,_,none⟩) GX.out).trans X1.out) Tryz.underlying23 zr ?_
     (simp only [Mem.zp,Mem.pb,Mem.pc])
     refine plan_bin _ _ _ _ _ _ _ _ zr zr zr ze ze (fun wx=>o_and _ _ _ _ _ _ wx) ?_
     (simp only [Mem.zp,Mem.pb,Mem.pc])
     iterate 2 ((first | refine Mem.pm1 ?_ | refine Mem.pm2 ?_ | refine Mem.pt ?_ | refine Mem.pf ?_);(simp only [Mem.zp,Mem.pb,Mem.pc]))
     refine plan_index 216 23 _ _ gx 0 8 cx 2 zr zr zr ze zr (by omega) Tryz.underlying216 (by kernel_rfl) ?_
     (simp only [Mem.zp,Mem.pb,Mem.pc])
     refine plan_cell 23 _ _ _ _ zr zr zr ze (fun w' hw'=>(hw'.cell (p:=⟨_,_,none⟩) GX.out).trans X2.out) Tryz.underlying23 zr ?_
     (simp only [Mem.zp,Mem.pb,Mem.pc])
     refine plan_bin _ _ _ _ _ _ _ _ zr zr zr ze ze (fun wx=>o_and _ _ _ _ _ _ wx) ?_
     (simp only [Mem.zp,Mem.pb,Mem.pc])
     refine plan_bin _ _ _ _ _ _ _ _ zr zr zr ze ze (fun wx=>o_xor _ _ _ _ _ _ wx) ?_
     (simp only [Mem.zp,Mem.pb,Mem.pc])
     (first | refine Mem.pm1 ?_ | refine Mem.pm2 ?_ | refine Mem.pt ?_ | refine Mem.pf ?_)
     (simp only [Mem.zp,Mem.pb,Mem.pc])
     refine plan_index 216 23 _ _ gx 0 8 cx 1 zr zr zr ze zr (by omega) Tryz.underlying216 (by kernel_rfl) ?_
     (simp only [Mem.zp,Mem.pb,Mem.pc])
     refine plan_cell 23 _ _ _ _ zr zr zr ze (fun w' hw'=>(hw'.cell (p:=⟨_,_,none⟩) GX.out).trans X1.out) Tryz.underlying23 zr ?_
     (simp only [Mem.zp,Mem.pb,Mem.pc])
     (first | refine Mem.pm1 ?_ | refine Mem.pm2 ?_ | refine Mem.pt ?_ | refine Mem.pf ?_)
     (simp only [Mem.zp,Mem.pb,Mem.pc])
     refine plan_index 216 23 _ _ gx 0 8 cx 2 zr zr zr ze zr (by omega) Tryz.underlying216 (by kernel_rfl) ?_
     (simp only [Mem.zp,Mem.pb,Mem.pc])
     refine plan_cell 23 _ _ _ _ zr zr zr ze (fun w' hw'=>(hw'.cell (p:=⟨_,_,none⟩) GX.out).trans X2.out) Tryz.underlying23 zr ?_
     (simp only [Mem.zp,Mem.pb,Mem.pc])
     refine plan_bin _ _ _ _ _ _ _ _ zr zr zr ze ze (fun wx=>o_and _ _ _ _ _ _ wx) ?_
     (simp only [Mem.zp,Mem.pb,Mem.pc])
     refine plan_bin _ _ _ _ _ _ _ _ zr zr zr ze ze (fun wx=>o_xor _ _ _ _ _ _ wx) ?_
     (simp only [Mem.zp,Mem.pb,Mem.pc])
     refine plan_call 157 _ _ #[.int .u32 (V r.a),.int .i64 2] (by kernel_rfl) zr zr zr (by first | exact Mem.ev_none _ | (simp only [List.map_toArray,List.map_cons,List.map_nil,Mem.ev_tmp,List.getD_cons_succ,List.getD_cons_zero] <;> rfl)) ?_
     with_reducible refine (T2.out _).mono ?_
     rintro e W ⟨rfl,rfl⟩
     refine ⟨_,rfl,B.out,?_⟩
     (simp only [Mem.zp,Mem.pb,Mem.pc])
     refine plan_call 157 _ _ #[.int .u32 (V r.a),.int .i64 13] (by kernel_rfl) zr zr zr (by first | exact Mem.ev_none _ | (simp only [List.map_toArray,List.map_cons,List.map_nil,Mem.ev_tmp,List.getD_cons_succ,List.getD_cons_zero] <;> rfl)) ?_
     with_reducible refine (T13.out _).mono ?_
     rintro e W ⟨rfl,rfl⟩
     refine ⟨_,rfl,B.out,?_⟩
     (simp only [Mem.zp,Mem.pb,Mem.pc])
     refine plan_bin _ _ _ _ _ _ _ _ zr zr zr ze ze (fun wx=>o_xor _ _ _ _ _ _ wx) ?_
     (simp only [Mem.zp,Mem.pb,Mem.pc])
     refine plan_call 157 _ _ #[.int .u32 (V r.a),.int .i64 22] (by kernel_rfl) zr zr zr (by first | exact Mem.ev_none _ | (simp only [List.map_toArray,List.map_cons,List.map_nil,Mem.ev_tmp,List.getD_cons_succ,List.getD_cons_zero] <;> rfl)) ?_
     with_reducible refine (T22.out _).mono ?_
     rintro e W ⟨rfl,rfl⟩
     refine ⟨_,rfl,B.out,?_⟩
     (simp only [Mem.zp,Mem.pb,Mem.pc])
     refine plan_bin _ _ _ _ _ _ _ _ zr zr zr ze ze (fun wx=>o_xor _ _ _ _ _ _ wx) ?_
     (simp only [Mem.zp,Mem.pb,Mem.pc])
     refine plan_bin _ _ _ _ _ _ _ _ zr zr zr ze ze (fun wx=>o_add _ _ _ _ _ _ wx) ?_
     (simp only [Mem.zp,Mem.pb,Mem.pc])
     (first | refine Mem.pm1 ?_ | refine Mem.pm2 ?_ | refine Mem.pt ?_ | refine Mem.pf ?_)
     (simp only [Mem.zp,Mem.pb,Mem.pc])
     refine plan_nil ?_
     go_wp2_with fail
     refine wp_region_plan_in (fun w'=>Below wr.heap.size wr w') (.take 0 (.take 1 (.take 2 (.take 3 (.take 4 (.take 5 (.take 6 (.take 7 (.take 8 (.take 9 (.take 10 (.take 11 (.take 12 (.take 13 (.take 14 (.take 15 (.take 16 (.take 17 (.take 18 (.take 19 (.take 20 (.take 21 (.take 22 (.take 23 (.take 24 (.take 25 (.sole 26 (.take 27 .done)))))))))))))))))))))))))))) (by kernel_rfl) (by kernel_rfl) (by kernel_rfl) B.out.drew ?_
     replace B:=zh B.out.drew
     generalize World.drew _=W at *
     iterate 2 ((first | refine Mem.pm1 ?_ | refine Mem.pm2 ?_ | refine Mem.pt ?_ | refine Mem.pf ?_);(simp only [Mem.zp,Mem.pb,Mem.pc]))
     refine plan_bin _ _ _ _ _ _ _ _ zr zr zr ze ze (fun wx=>o_add _ _ _ _ _ _ wx) ?_
     (simp only [Mem.zp,Mem.pb,Mem.pc])
     (first | refine Mem.pm1 ?_ | refine Mem.pm2 ?_ | refine Mem.pt ?_ | refine Mem.pf ?_)
     (simp only [Mem.zp,Mem.pb,Mem.pc])
     refine plan_index 216 23 _ _ gx 0 8 cx 0 zr zr zr ze zr (by omega) Tryz.underlying216 (by kernel_rfl) ?_
     (simp only [Mem.zp,Mem.pb,Mem.pc])
     refine plan_cell 23 _ _ _ _ zr zr zr ze (fun w' hw'=>(hw'.cell (p:=⟨_,_,none⟩) GX.out).trans X0.out) Tryz.underlying23 zr ?_
     (simp only [Mem.zp,Mem.pb,Mem.pc])
     (first | refine Mem.pm1 ?_ | refine Mem.pm2 ?_ | refine Mem.pt ?_ | refine Mem.pf ?_)
     (simp only [Mem.zp,Mem.pb,Mem.pc])
     refine plan_index 216 23 _ _ gx 0 8 cx 1 zr zr zr ze zr (by omega) Tryz.underlying216 (by kernel_rfl) ?_
     (simp only [Mem.zp,Mem.pb,Mem.pc])
     refine plan_cell 23 _ _ _ _ zr zr zr ze (fun w' hw'=>(hw'.cell (p:=⟨_,_,none⟩) GX.out).trans X1.out) Tryz.underlying23 zr ?_
     (simp only [Mem.zp,Mem.pb,Mem.pc])
     (first | refine Mem.pm1 ?_ | refine Mem.pm2 ?_ | refine Mem.pt ?_ | refine Mem.pf ?_)
     (simp only [Mem.zp,Mem.pb,Mem.pc])
     refine plan_index 216 23 _ _ gx 0 8 cx 2 zr zr zr ze zr (by omega) Tryz.underlying216 (by kernel_rfl) ?_
     (simp only [Mem.zp,Mem.pb,Mem.pc])
     refine plan_cell 23 _ _ _ _ zr zr zr ze (fun w' hw'=>(hw'.cell (p:=⟨_,_,none⟩) GX.out).trans X2.out) Tryz.underlying23 zr ?_
     (simp only [Mem.zp,Mem.pb,Mem.pc])
     (first | refine Mem.pm1 ?_ | refine Mem.pm2 ?_ | refine Mem.pt ?_ | refine Mem.pf ?_)
     (simp only [Mem.zp,Mem.pb,Mem.pc])
     refine plan_index 216 23 _ _ gx 0 8 cx 3 zr zr zr ze zr (by omega) Tryz.underlying216 (by kernel_rfl) ?_
     (simp only [Mem.zp,Mem.pb,Mem.pc])
     refine plan_cell 23 _ _ _ _ zr zr zr ze (fun w' hw'=>(hw'.cell (p:=⟨_,_,none⟩) GX.out).trans X3.out) Tryz.underlying23 zr ?_
     (simp only [Mem.zp,Mem.pb,Mem.pc])
     (first | refine Mem.pm1 ?_ | refine Mem.pm2 ?_ | refine Mem.pt ?_ | refine Mem.pf ?_)
     (simp only [Mem.zp,Mem.pb,Mem.pc])
     refine plan_bin _ _ _ _ _ _ _ _ zr zr zr ze ze (fun wx=>o_add _ _ _ _ _ _ wx) ?_
     (simp only [Mem.zp,Mem.pb,Mem.pc])
     (first | refine Mem.pm1 ?_ | refine Mem.pm2 ?_ | refine Mem.pt ?_ | refine Mem.pf ?_)
     (simp only [Mem.zp,Mem.pb,Mem.pc])
     refine plan_index 216 23 _ _ gx 0 8 cx 4 zr zr zr ze zr (by omega) Tryz.underlying216 (by kernel_rfl) ?_
     (simp only [Mem.zp,Mem.pb,Mem.pc])
     refine plan_cell 23 _ _ _ _ zr zr zr ze (fun w' hw'=>(hw'.cell (p:=⟨_,_,none⟩) GX.out).trans X4.out) Tryz.underlying23 zr ?_
     (simp only [Mem.zp,Mem.pb,Mem.pc])
     (first | refine Mem.pm1 ?_ | refine Mem.pm2 ?_ | refine Mem.pt ?_ | refine Mem.pf ?_)
     (simp only [Mem.zp,Mem.pb,Mem.pc])
     refine plan_index 216 23 _ _ gx 0 8 cx 5 zr zr zr ze zr (by omega) Tryz.underlying216 (by kernel_rfl) ?_
     (simp only [Mem.zp,Mem.pb,Mem.pc])
     refine plan_cell 23 _ _ _ _ zr zr zr ze (fun w' hw'=>(hw'.cell (p:=⟨_,_,none⟩) GX.out).trans X5.out) Tryz.underlying23 zr ?_
     (simp only [Mem.zp,Mem.pb,Mem.pc])
     (first | refine Mem.pm1 ?_ | refine Mem.pm2 ?_ | refine Mem.pt ?_ | refine Mem.pf ?_)
     (simp only [Mem.zp,Mem.pb,Mem.pc])
     refine plan_index 216 23 _ _ gx 0 8 cx 6 zr zr zr ze zr (by omega) Tryz.underlying216 (by kernel_rfl) ?_
     (simp only [Mem.zp,Mem.pb,Mem.pc])
     refine plan_cell 23 _ _ _ _ zr zr zr ze (fun w' hw'=>(hw'.cell (p:=⟨_,_,none⟩) GX.out).trans X6.out) Tryz.underlying23 zr ?_
     (simp only [Mem.zp,Mem.pb,Mem.pc])
     refine plan_slice 216 23 8 _ #[.int .u32 (V (tee K Wt r+you r)),.int .u32 (V r.a),.int .u32 (V r.b),.int .u32 (V r.c),.int .u32 (V (r.d+tee K Wt r)),.int .u32 (V r.e),.int .u32 (V r.f),.int .u32 (V r.g)] zr zr zr Tryz.underlying216 (by kernel_rfl) (B.out.alloc B.out.size _) ?_
     (simp only [Mem.zp,Mem.pb,Mem.pc])
     (first | refine Mem.pm1 ?_ | refine Mem.pm2 ?_ | refine Mem.pt ?_ | refine Mem.pf ?_)
     (simp only [Mem.zp,Mem.pb,Mem.pc])
     refine plan_nil ?_
     go_wp2_with fail
     go_roundw
     case rel=>exact ⟨t2+1,by omega,by go_num,by rw [NX.out];exact wl_new _ (rnd K Wt r).list _,OW.out.below (B.out.alloc B.out.size _),BR.out.trans ((B.out.alloc B.out.size _).mono BR.out.size)⟩
     case measure=>simp [intOf];omega
    ·-- the sums
     obtain ⟨gx,cx,rfl,hgx,hxc⟩:=hwl
     rw [list_len] at hxc ⊢
     have ht64:t2=64:=by omega
     rw [ht64] at hr
     obtain ⟨C,hC⟩:∃ C,C=comp H Bk:=⟨_,rfl⟩
     have hsum:∀ i,i < 8→C.getD i 0=r.list.getD i 0+H.getD i 0:=fun i hi=>by rw [hC,comp,←hr,adds_getD _ _ (by rw [list_len,lH]) i (by rw [list_len];exact hi)]
     have hCl:C.length=8:=by rw [hC,comp_len H Bk lH]
     have hge2:¬ (t2:Int) < 64:=by omega
     have SUM:=zh hsum;have CL:=zh hCl;have HC:=zh hC;have XC:=zh hxc;have GX:=zh hgx;have BR:=zh hbr
     clear hsum hCl hC hxc hgx hbr hr ht64 how hlt
     go_wp2_with fail
     obtain ⟨w3,rfl⟩:∃ w3:World,w3=wr:=⟨_,rfl⟩
     go_loopw [19,20] (fun v i wr=>ORel w3 C v i wr) (fun _ i _=>8 - (intOf i).toNat)
     case atStart=>exact ⟨0,by omega,rfl,OwnV.nil _ _ _,Below.refl _ _⟩
     case round=>
      obtain ⟨t3,ht3,rfl,how,hbr⟩:=hrel
      by_cases hlt:t3 < 8
      ·have hnx:u32s (C.take (t3+1))=u32s (C.take t3)++[.int .u32 (V (r.list.getD t3 0+H.getD t3 0))]:=by rw [u32s_next C t3 (by rw [CL.out];exact hlt),SUM.out t3 hlt]
       have hl1:(u32s (C.take t3)).length=t3:=by rw [u32s_length,List.length_take,CL.out];omega
       have hx3:w3.cell? ⟨gx,0+t3,none⟩=some (.int .u32 (V (r.list.getD t3 0))):=by rw [Nat.zero_add];exact XC.out t3 hlt
       have hs3:w3.cell? ⟨gs,0+t3,none⟩=some (.int .u32 (V (H.getD t3 0))):=by rw [Nat.zero_add,BR.out.cell (p:=⟨gs,t3,none⟩) GS.out];exact SC.out t3 hlt
       have hgs3:gs < w3.heap.size:=Nat.lt_of_lt_of_le GS.out BR.out.size
       obtain ⟨xv,hxv⟩:∃ x,x=r.list.getD t3 0:=⟨_,rfl⟩
       obtain ⟨sv,hsv⟩:∃ x,x=H.getD t3 0:=⟨_,rfl⟩
       rw [←hxv,←hsv] at hnx;rw [←hxv] at hx3;rw [←hsv] at hs3
       have NX:=zh hnx;have L1:=zh hl1;have X3:=zh hx3;have S3:=zh hs3;have GS3:=zh hgs3;have OW:=zh (how.keep (w':=wr.drew) fun _ _=>rfl);have BRR:=zh hbr
       have hlt':(t3:Int) < 8:=by omega
       clear hnx hl1 hx3 hs3 hgs3 how hbr hxv hsv
       go_wp2_with fail
       refine wp_region_plan_in (fun w'=>Below w3.heap.size w3 w') (.take 0 (.take 1 (.take 2 (.take 3 (.take 4 (.take 5 (.take 6 (.take 7 (.take 8 (.take 9 (.sole 10 (.sole 11 (.take 12 .done))))))))))))) (by kernel_rfl) (by kernel_rfl) (by kernel_rfl) BRR.out.drew ?_
       have B:Hid (Below w3.heap.size w3 wr.drew):=BRR.out.drew
       generalize wr.drew=W at *
       iterate 3 ((first | refine Mem.pm1 ?_ | refine Mem.pm2 ?_ | refine Mem.pt ?_ | refine Mem.pf ?_);(simp only [Mem.zp,Mem.pb,Mem.pc]))
       refine plan_index 216 23 _ _ gx 0 8 cx t3 zr zr zr ze ze (by omega) Tryz.underlying216 (by kernel_rfl) ?_
       (simp only [Mem.zp,Mem.pb,Mem.pc])
       refine plan_cell 23 _ _ _ _ zr zr zr ze (fun w' hw'=>(hw'.cell (p:=⟨_,_,none⟩) GX.out).trans X3.out) Tryz.underlying23 zr ?_
       (simp only [Mem.zp,Mem.pb,Mem.pc])
       iterate 2 ((first | refine Mem.pm1 ?_ | refine Mem.pm2 ?_ | refine Mem.pt ?_ | refine Mem.pf ?_);(simp only [Mem.zp,Mem.pb,Mem.pc]))
       refine plan_index 216 23 _ _ gs 0 8 cs t3 zr zr zr ze ze (by omega) Tryz.underlying216 (by kernel_rfl) ?_
       (simp only [Mem.zp,Mem.pb,Mem.pc])
       refine plan_cell 23 _ _ _ _ zr zr zr ze (fun w' hw'=>(hw'.cell (p:=⟨_,_,none⟩) GS3.out).trans S3.out) Tryz.underlying23 zr ?_
       (simp only [Mem.zp,Mem.pb,Mem.pc])
       refine plan_bin _ _ _ _ _ _ _ _ zr zr zr ze ze (fun wx=>o_add _ _ _ _ _ _ wx) ?_
       (simp only [Mem.zp,Mem.pb,Mem.pc])
       refine plan_slice 216 23 1 _ #[.int .u32 (V (xv+sv))] zr zr zr Tryz.underlying216 (by kernel_rfl) (B.out.alloc B.out.size _) ?_
       (simp only [Mem.zp,Mem.pb,Mem.pc])
       refine plan_append_lit _ _ 216 zr zr zr (.int .u32 (V (xv+sv))) (.int .u32 0) 4 elemW zr ze OW.out ze zr (by rw [L1.out];omega) (by rw [L1.out];omega) B.out.size ?_
       intro v' w' ho' _ hb' _ _
       refine ⟨B.out.trans hb',?_⟩
       have OW':=zh ho';have BR':=zh (B.out.trans hb')
       clear ho' hb'
       (simp only [Mem.zp,Mem.pb,Mem.pc])
       (first | refine Mem.pm1 ?_ | refine Mem.pm2 ?_ | refine Mem.pt ?_ | refine Mem.pf ?_)
       (simp only [Mem.zp,Mem.pb,Mem.pc])
       refine plan_nil ?_
       go_wp2_with fail
       go_roundw
       case rel=>exact ⟨t3+1,by omega,by go_num,by rw [NX.out];exact OW'.out,BR'.out⟩
       case measure=>simp [intOf];omega
      ·have h8:t3=8:=by omega
       have hall:C.take t3=comp H Bk:=by rw [List.take_of_length_le (by rw [CL.out];omega),HC.out]
       rw [hall] at how
       have hge3:¬ (t3:Int) < 8:=by omega
       have OW:=zh how;have BRR:=zh hbr
       clear hall how hbr h8 hlt ht3
       go_wp2_with fail
       go_ret
       exact ⟨_,rfl,ownV_more OW.out BR.out.size,BR.out.trans (BRR.out.mono BR.out.size)⟩
end Sha
end Go.Proofs.YtplmfmpbkjnbaaaGreatDoor
