/- My own texts, merged. -/
import Derived.Test.YtplmfmpbkjnbaaaGreatDoorBQ34
import Derived.Test.YtplmfmpbkjnbaaaGreatDoorBQ36
import Derived.Test.YtplmfmpbkjnbaaaGreatDoorBQ00
import Derived.Test.YtplmfmpbkjnbaaaGreatDoorBQ35
set_option maxRecDepth 100000
set_option maxHeartbeats 2000000
namespace Go.Proofs.YtplmfmpbkjnbaaaGreatDoor
namespace Sha
open Go.RowKit Mem
set_option maxRecDepth 100000
def RPlEnd (w:World) (t:List (Nat × Lb8) × List NdV × RefV × Int) (e:Ending) (w':World):Prop:=∃ vp vn,e=.returned (.agg (toldC vp vn t.2.2.1 t.2.2.2))∧WPut (fun k=>w.heap.size≤k) w' vp t.1∧SlNdG (fun k=>w.heap.size≤k) w' vn t.2.1∧Below w.heap.size w w'
theorem toldC_size (vp vn:Value) {r:RefV} (h:r.Wf) (e:Int):(toldC vp vn r e).size=37:=by
 show (vp::vn::(refL r++[.int .i64 e])).length=37
 rw [List.length_cons,List.length_cons,List.length_append,refL_length h];rfl
theorem toldC_one (a b:Option Addr) (n c m d:Nat) (r:RefV) (e:Int):(toldC (.slice a n c) (.slice b m d) r e).all (·.oneCell')=true:=by
 have h:∀ x∈refL r,x.oneCell'=true:=refL_one r
 rw [Array.all_eq_true_iff_forall_mem]
 intro x hx
 have hx:x∈(.slice a n c::.slice b m d::(refL r++[.int .i64 e]):List Value):=by simpa [toldC] using hx
 rcases List.mem_cons.1 hx with rfl | hx
 ·rfl
 ·rcases List.mem_cons.1 hx with rfl | hx
  ·rfl
  ·rcases List.mem_append.1 hx with hx | hx
   ·exact h x hx
   ·rw [List.mem_singleton.1 hx];rfl
theorem infoTold:(Tryz.prog.info? 54).map (·.size)=some 37:=by kernel_rfl
theorem zeroTold (w:World):(zeroValue 54).run Tryz.prog w=.ok (.agg (toldC (.slice none 0 0) (.slice none 0 0) zref 0)) w:=by
 have e:toldC (.slice none 0 0) (.slice none 0 0) zref 0=(.slice none 0 0::.slice none 0 0::.int .i64 0::.int .u32 0::(List.replicate 32 (.int .u8 0)++[.int .i64 0]):List Value).toArray:=by
  unfold toldC refL zref
  rfl
 have h:(zeroValue 54).run Tryz.prog w=.ok (.agg (.slice none 0 0::.slice none 0 0::.int .i64 0::.int .u32 0::(List.replicate 32 (.int .u8 0)++[.int .i64 0]):List Value).toArray) w:=by kernel_rfl
 rw [e];exact h
theorem buildTold (w:World):(Instr.build 54 #[(3,.int .i64 1)]).run Tryz.prog w=.ok (.agg (toldC (.slice none 0 0) (.slice none 0 0) zref 1)) w:=by
 have e:toldC (.slice none 0 0) (.slice none 0 0) zref 1=(.slice none 0 0::.slice none 0 0::.int .i64 0::.int .u32 0::(List.replicate 32 (.int .u8 0)++[.int .i64 1]):List Value).toArray:=by
  unfold toldC refL zref
  rfl
 have h:(Instr.build 54 #[(3,.int .i64 1)]).run Tryz.prog w=.ok (.agg (.slice none 0 0::.slice none 0 0::.int .i64 0::.int .u32 0::(List.replicate 32 (.int .u8 0)++[.int .i64 1]):List Value).toArray) w:=by kernel_rfl
 rw [e];exact h
def rpW (w:World) (KC HC RC Z:Array Value):World:=(((w.alloc (.cells KC 22)).alloc (.cells HC 37)).alloc (.cells RC 25)).alloc (.cells Z 54)
structure RpB (w w4:World) (KC HC RC Z:Array Value):Prop where
 k:At w4 w.heap.size KC 22
 s:At w4 (w.heap.size+1) HC 37
 r:At w4 (w.heap.size+1+1) RC 25
 z:At w4 (w.heap.size+1+1+1) Z 54
 b:Below w.heap.size w w4
theorem rpB_new (w:World) (KC HC RC Z:Array Value):RpB w (rpW w KC HC RC Z) KC HC RC Z:=by
 refine ⟨(((at_new w KC _).alloc _).alloc _).alloc _,?_,?_,?_,((((Below.refl _ _).alloc (Nat.le_refl _) _).alloc (by simp) _).alloc (by simp;omega) _).alloc (by simp;omega) _⟩
 ·have h:=((at_new (w.alloc (.cells KC 22)) HC 37).alloc (.cells RC 25)).alloc (.cells Z 54)
  simpa [rpW] using h
 ·have h:=(at_new ((w.alloc (.cells KC 22)).alloc (.cells HC 37)) RC 25).alloc (.cells Z 54)
  simpa [rpW] using h
 ·have h:=at_new (((w.alloc (.cells KC 22)).alloc (.cells HC 37)).alloc (.cells RC 25)) Z 54
  simpa [rpW] using h
theorem RpB.below {w w4 w5:World} {KC HC RC Z:Array Value} (h:RpB w w4 KC HC RC Z) (hb:Below w4.heap.size w4 w5):RpB w w5 KC HC RC Z:=
 ⟨h.k.below hb h.k.lt,h.s.below hb h.s.lt,h.r.below hb h.r.lt,h.z.below hb h.z.lt,h.b.trans (hb.mono h.b.size)⟩
theorem rplan_bad (key:Lb8) (ep:BitVec 32) (p:Nat) (vL vF:Value) (root:RefV) (N:List NdV) (C:List ChV) (vn vc:Value) (w:World) (hr:root.Wf) (hR:RS w p vL vF) (hn:SlNd w vn N) (hc:SlCh w vc C) (hN:NdWf N) (h0:1≤p) (h1:p≤216) (hl:C.length≤1000) (hbad:¬ (mayT p N C=true∧plOk root=true)) :
 Calls Tryz.prog 16 #[.agg (u8s key).toArray,.int .u32 (V ep),.agg (rsC p vL vF),.agg (refC root),vn,vc] w (RPlEnd w ([],[],zref,1)):=by
 have my:=fun wx (h:Below w.heap.size w wx)=>rmay16_any p vL vF N C vn vc wx (hR.below h) (hn.below h) (hc.below h) hN h0 h1 hl
 have rr:=fun wx=>rright_any root wx hr
 have hs:(rsC p vL vF).size=3:=rfl
 have rs:=refC_size hr
 obtain ⟨KC,hKC⟩:∃ K,K=(u8s key).toArray:=⟨_,rfl⟩
 obtain ⟨HC,hHC⟩:∃ C,C=rsC p vL vF:=⟨_,rfl⟩
 obtain ⟨RC,hRC⟩:∃ R,R=refC root:=⟨_,rfl⟩
 obtain ⟨Z,hZ⟩:∃ Z,Z=toldC (.slice none 0 0) (.slice none 0 0) zref 0:=⟨_,rfl⟩
 obtain ⟨Z1,hZ1⟩:∃ Z,Z=toldC (.slice none 0 0) (.slice none 0 0) zref 1:=⟨_,rfl⟩
 have zs:Z.size=37:=by rw [hZ];exact toldC_size _ _ zref_wf 0
 have zs1:Z1.size=37:=by rw [hZ1];exact toldC_size _ _ zref_wf 1
 have zo1:Z1.all (·.oneCell')=true:=by rw [hZ1];exact toldC_one _ _ _ _ _ _ _ _
 have hx:=zeroTold
 have bt:=buildTold
 rw [←hZ] at hx
 rw [←hZ1] at bt
 have pb:=rpB_new w KC HC RC Z
 obtain ⟨an,cn,rfl⟩:=hn.hd
 obtain ⟨ac,cc,rfl⟩:=hc.hd
 obtain ⟨PL,hPL⟩:∃ P,P=plOk root:=⟨_,rfl⟩
 obtain ⟨MY,hMY⟩:∃ P,P=mayT p N C:=⟨_,rfl⟩
 obtain ⟨nN,hnN⟩:∃ n,n=N.length:=⟨_,rfl⟩
 obtain ⟨nC,hnC⟩:∃ n,n=C.length:=⟨_,rfl⟩
 rw [←hMY,←hHC,←hnN,←hnC] at my
 rw [←hPL,←hRC] at rr
 rw [←hMY,←hPL] at hbad
 rw [←hRC] at rs
 rw [←hHC] at hs
 unfold RPlEnd
 show Calls _ _ _ _ (fun e w'=>∃ vp vn,e=.returned (.agg (toldC vp vn zref 1))∧WPut (fun k=>w.heap.size≤k) w' vp []∧SlNdG (fun k=>w.heap.size≤k) w' vn []∧Below w.heap.size w w')
 rw [←hKC,←hHC,←hRC,←hnN,←hnC]
 have MYY:=zh my;have RR:=zh rr;have HS:=zh hs;have RS':=zh rs;have ZS:=zh zs;have ZS1:=zh zs1;have ZO1:=zh zo1;have BT:=zh bt;have PB:=zh pb;have BAD:=zh hbad;have HZ1:=zh hZ1
 clear my rr hs rs zs zs1 zo1 bt pb hbad hKC hHC hRC hZ hZ1 hPL hMY hnN hnC hn hc hN hR hr hl
 go_enter Tryz.func16,Tryz.ntmps16
 go_upto_region 1 with fail
 rw [show (((w.alloc (.cells KC 22)).alloc (.cells HC 37)).alloc (.cells RC 25)).alloc (.cells Z 54)=rpW w KC HC RC Z from rfl]
 generalize rpW w KC HC RC Z=w4 at *
 clear hx
 go_wp2_with (refine wpList_load_all zr 37 _ zr (w.heap.size+1) zr _ Tryz.underlying37 zr HC _ PB.out.s (by rw [HS.out];exact infoRS) ?_)
 refine (MYY.out _ PB.out.b).mono ?_
 rintro e w5 ⟨rfl,hb5⟩
 have P5:=zh (PB.out.below hb5)
 clear hb5 PB
 cases hm:MY with
 | false=>
  clear hm
  go_wp2_with (first
   | (refine Mem.wpList_build zr 54 _ #[(3,.int .i64 1)] (.agg Z1) zr (by first | rfl | simp [Act.eval]) BT.out ?_)
   | (refine wpList_store_all zr 54 _ _ zr zr (w.heap.size+1+1+1) Z1 zr zr (by rw [ZS1.out];exact infoTold) Z 54 P5.out.z (by rw [ZS1.out,ZS.out]) ZO1.out ?_))
  try simp only [Exit.inBlock,Exit.then]
  refine ret_row zr (w.heap.size+1+1+1) 54 Z1 _ zr (P5.out.z.row Z1) Tryz.underlying54 zr (by rw [ZS1.out];exact infoTold) ?_
  exact ⟨_,_,by rw [HZ1.out],⟨[],trivial,SlR.nil _ _ _⟩,SlNdG.nil _ _ _,below_row P5.out.b (by omega) Z1⟩
 | true=>
  have PF:Hid (PL=false):=zh (by cases h:PL with
   | false=>rfl
   | true=>exact absurd ⟨hm,h⟩ BAD.out)
  clear hm
  go_wp2_with (refine wpList_unguard zr ?_;refine wpList_load_all zr 25 _ zr (w.heap.size+1+1) zr _ Tryz.underlying25 zr RC _ P5.out.r (by rw [RS'.out];exact infoRfR) ?_)
  refine (RR.out _).mono ?_
  rintro e w6 ⟨rfl,hb6⟩
  have P6:=zh (P5.out.below hb6)
  rw [PF.out]
  clear hb6 P5
  go_wp2_with (first
   | (refine Mem.wpList_build zr 54 _ #[(3,.int .i64 1)] (.agg Z1) zr (by first | rfl | simp [Act.eval]) BT.out ?_)
   | (refine wpList_store_all zr 54 _ _ zr zr (w.heap.size+1+1+1) Z1 zr zr (by rw [ZS1.out];exact infoTold) Z 54 P6.out.z (by rw [ZS1.out,ZS.out]) ZO1.out ?_))
  try simp only [Exit.inBlock,Exit.then]
  refine ret_row zr (w.heap.size+1+1+1) 54 Z1 _ zr (P6.out.z.row Z1) Tryz.underlying54 zr (by rw [ZS1.out];exact infoTold) ?_
  exact ⟨_,_,by rw [HZ1.out],⟨[],trivial,SlR.nil _ _ _⟩,SlNdG.nil _ _ _,below_row P6.out.b (by omega) Z1⟩
end Sha
end Go.Proofs.YtplmfmpbkjnbaaaGreatDoor
namespace Go.Proofs.YtplmfmpbkjnbaaaGreatDoor
namespace Sha
open Go.RowKit Mem
set_option maxRecDepth 100000
def blC (T:List Bool):Array Value:=(T.map fun b=>Value.bool b).toArray
theorem at_apart {w:World} {b c:Nat} {C D:Array Value} {t u:TypeId} (h:At w b C t) (k:At w c D u) (hn:t≠u):b≠c:=fun e=>by
 subst e
 unfold At at h k
 rw [h] at k
 injection k with k
 simp at k
 exact hn k.2
structure RpI (w0 w:World) (bo bf bt:Nat) (vp vn:Value) (Dp:Foot) (wp:List (Int × Value)) (PU:List (Int × Lb8)) (Dn:Foot) (wn:List (Int × Value)) (NO:List NdV) (F:List RefV) (T:List Bool) (R:RefV):Prop where
 b:Below w0.heap.size w0 w
 o:At w bo (toldC vp vn R 0) 54
 f:At w bf (refCs F).toArray 25
 t:At w bt (blC T) 4
 p:OwnL TB w w0.heap.size 152 vp Dp wp PU
 q:OwnL TR w w0.heap.size 124 vn Dn wn NO
 dp:∀ k,Dp k→k≠bo∧k≠bf∧k≠bt∧vn.ownBlock≠some k
 dn:∀ k,Dn k→k≠bo∧k≠bf∧k≠bt∧vp.ownBlock≠some k
 ns:w0.heap.size≤bo∧w0.heap.size≤bf∧w0.heap.size≤bt
section
variable {w0 w w2 w3 w5 w6:World} {bo bf bt:Nat} {vp vn vp' vn' u:Value} {Dp Dn G:Foot} {wp wn:List (Int × Value)} {PU:List (Int × Lb8)} {NO:List NdV} {F F':List RefV} {T T':List Bool} {R R':RefV} {x:Lb8} {z:Int} {L:List RefV}
theorem OwnL.keepW {β:Type} {Q:Foot→World→Value→β→Prop} {B:Nat} {t:TypeId} {v:Value} {D:Foot} {ws:List (Int × Value)} {xs:List (Int × β)} (h:OwnL Q w B t v D ws xs) (E:ElseT Q) (hs:w.heap.size≤w2.heap.size) (hk:∀ k,k < w.heap.size→(D k∨v.ownBlock=some k)→w2.heap[k]?=w.heap[k]?):OwnL Q w2 B t v D ws xs:=
 ⟨h.e.mono fun _ _ a=>⟨a.1,E.keep _ _ _ _ _ a.2 hs fun k hd hl=>hk k hl (.inl hd)⟩,ownsRow_keep h.o fun g hg=>hk g (World.ownsRow.lt h.o g hg).2 (.inr hg),fun k hd=>⟨Nat.lt_of_lt_of_le (h.d k hd).1 hs,(h.d k hd).2⟩⟩
theorem RpI.apart (h:RpI w0 w bo bf bt vp vn Dp wp PU Dn wn NO F T R):(∀ k,vp.ownBlock=some k→k≠bo∧k≠bf∧k≠bt)∧∀ k,vn.ownBlock=some k→k≠bo∧k≠bf∧k≠bt:=
 ⟨fun k hk=>⟨fun e=>own_ne_at h.p.o h.o (by decide) (by rw [←e];exact hk),fun e=>own_ne_at h.p.o h.f (by decide) (by rw [←e];exact hk),fun e=>own_ne_at h.p.o h.t (by decide) (by rw [←e];exact hk)⟩,
  fun k hk=>⟨fun e=>own_ne_at h.q.o h.o (by decide) (by rw [←e];exact hk),fun e=>own_ne_at h.q.o h.f (by decide) (by rw [←e];exact hk),fun e=>own_ne_at h.q.o h.t (by decide) (by rw [←e];exact hk)⟩⟩
theorem RpI.chg (h:RpI w0 w bo bf bt vp vn Dp wp PU Dn wn NO F T R) (hs:w.heap.size≤w2.heap.size) (hb:Below w0.heap.size w0 w2) (ho:At w2 bo (toldC vp vn R' 0) 54) (hf:At w2 bf (refCs F').toArray 25) (ht:At w2 bt (blC T') 4)
 (hk:∀ k,k < w.heap.size→k≠bo→k≠bf→k≠bt→w2.heap[k]?=w.heap[k]?):RpI w0 w2 bo bf bt vp vn Dp wp PU Dn wn NO F' T' R':=by
 obtain ⟨ap,an⟩:=h.apart
 refine ⟨hb,ho,hf,ht,h.p.keepW elseB hs fun k hl e=>?_,h.q.keepW elseR hs fun k hl e=>?_,h.dp,h.dn,h.ns⟩
 ·rcases e with e | e
  ·obtain ⟨a,b,c,_⟩:=h.dp k e;exact hk k hl a b c
  ·obtain ⟨a,b,c⟩:=ap k e;exact hk k hl a b c
 ·rcases e with e | e
  ·obtain ⟨a,b,c,_⟩:=h.dn k e;exact hk k hl a b c
  ·obtain ⟨a,b,c⟩:=an k e;exact hk k hl a b c
theorem RpI.below (h:RpI w0 w bo bf bt vp vn Dp wp PU Dn wn NO F T R) (hb:Below w.heap.size w w2):RpI w0 w2 bo bf bt vp vn Dp wp PU Dn wn NO F T R:=
 h.chg hb.size (h.b.trans (hb.mono h.b.size)) (h.o.below hb h.o.lt) (h.f.below hb h.f.lt) (h.t.below hb h.t.lt) fun k hl _ _ _=>hb.block k hl
theorem RpI.fresh (h:RpI w0 w bo bf bt vp vn Dp wp PU Dn wn NO F T R) (F':List RefV):RpI w0 (w.setRow bf (refCs F').toArray) bo bf bt vp vn Dp wp PU Dn wn NO F' T R:=by
 have n1:bo≠bf:=at_apart h.o h.f (by decide)
 have n2:bt≠bf:=at_apart h.t h.f (by decide)
 exact h.chg (by simp) (below_row h.b h.ns.2.1 _) (h.o.row_other _ n1) (h.f.row _) (h.t.row_other _ n2) fun k _ _ e _=>setRow_other _ _ k _ e
theorem RpI.turned (h:RpI w0 w bo bf bt vp vn Dp wp PU Dn wn NO F T R) (T':List Bool):RpI w0 (w.setRow bt (blC T')) bo bf bt vp vn Dp wp PU Dn wn NO F T' R:=by
 have n1:bo≠bt:=at_apart h.o h.t (by decide)
 have n2:bf≠bt:=at_apart h.f h.t (by decide)
 exact h.chg (by simp) (below_row h.b h.ns.2.2 _) (h.o.row_other _ n1) (h.f.row_other _ n2) (h.t.row _) fun k _ _ _ e=>setRow_other _ _ k _ e
theorem RpI.rooted (h:RpI w0 w bo bf bt vp vn Dp wp PU Dn wn NO F T R) (R':RefV):RpI w0 (w.setRow bo (toldC vp vn R' 0)) bo bf bt vp vn Dp wp PU Dn wn NO F T R':=by
 have n1:bf≠bo:=at_apart h.f h.o (by decide)
 have n2:bt≠bo:=at_apart h.t h.o (by decide)
 exact h.chg (by simp) (below_row h.b h.ns.1 _) (h.o.row _) (h.f.row_other _ n1) (h.t.row_other _ n2) fun k _ e _ _=>setRow_other _ _ k _ e
theorem app_own {v v':Value} {k:Nat} (ha:App w3 w5 v v') (hn:v.ownBlock≠some k) (hk:k < w3.heap.size):v'.ownBlock≠some k:=by
 rcases ha.b with e | ⟨g,e,hge⟩
 ·rw [e];exact hn
 ·rw [e];intro c;injection c with c;omega
theorem RpI.put (h:RpI w0 w bo bf bt vp vn Dp wp PU Dn wn NO F T R) (hs:SlB G w u x) (hG:∀ k,G k→k < w.heap.size∧(k≠bo∧k≠bf∧k≠bt)∧vp.ownBlock≠some k∧vn.ownBlock≠some k) (hb3:Below w.heap.size w w3) (ha:App w3 w5 vp vp') (hb5:Below w0.heap.size w3 w5)
 (ho:w5.ownsRow w0.heap.size 152 2 vp' (PU.length+1) (chVs wp++[.int .i64 z,u])) :
 RpI w0 (w5.setRow bo (toldC vp' vn R 0)) bo bf bt vp' vn (fun k=>Dp k∨G k) (wp++[(z,u)]) (PU++[(z,x)]) Dn wn NO F T R:=by
 have s3:=hb3.size;have s5:=ha.size
 obtain ⟨ap,an⟩:=h.apart
 have h3:=h.below hb3
 have p5:=h.p.add elseB hs (fun k hk=>⟨(hG k hk).1,(hG k hk).2.2.1⟩) hb3 ha ho
 have q5:OwnL TR w5 w0.heap.size 124 vn Dn wn NO:=h3.q.keepW elseR s5 fun k hl e=>ha.k k hl (by
  rcases e with e | e
  ·exact (h.dn k e).2.2.2
  ·exact fun g=>ownsRow_ne h.p.o h.q.o (by decide) k g e)
 have o5:At w5 bo _ _:=at_appd h3.o ha fun g=>(ap _ g).1 rfl
 have f5:At w5 bf _ _:=at_appd h3.f ha fun g=>(ap _ g).2.1 rfl
 have t5:At w5 bt _ _:=at_appd h3.t ha fun g=>(ap _ g).2.2 rfl
 have bb:Below w0.heap.size w0 w5:=h3.b.trans hb5
 have pa:∀ k,vp'.ownBlock=some k→k≠bo:=fun k hk e=>by
  rw [e] at hk
  exact own_ne_at p5.o o5 (by decide) hk
 refine ⟨below_row bb h.ns.1 _,o5.row _,f5.row_other _ (at_apart h.f h.o (by decide)),t5.row_other _ (at_apart h.t h.o (by decide)),p5.keepW elseB (by simp) fun k _ e=>setRow_other _ _ k _ ?_,q5.keepW elseR (by simp) fun k _ e=>setRow_other _ _ k _ ?_,fun k hk=>?_,fun k hk=>?_,h.ns⟩
 ·rcases e with (e | e) | e
  ·exact (h.dp k e).1
  ·exact (hG k e).2.1.1
  ·exact pa k e
 ·rcases e with e | e
  ·exact (h.dn k e).1
  ·exact (an k e).1
 ·rcases hk with hk | hk
  ·exact h.dp k hk
  ·obtain ⟨_,⟨a,b,c⟩,_,d⟩:=hG k hk
   exact ⟨a,b,c,d⟩
 ·obtain ⟨a,b,c,d⟩:=h.dn k hk
  exact ⟨a,b,c,app_own ha d (Nat.lt_of_lt_of_le (h.q.d k hk).1 s3)⟩
theorem RpI.node (h:RpI w0 w bo bf bt vp vn Dp wp PU Dn wn NO F T R) (hs:TR G w u L) (hG:∀ k,G k→k < w.heap.size∧(k≠bo∧k≠bf∧k≠bt)∧vp.ownBlock≠some k∧vn.ownBlock≠some k) (hb3:Below w.heap.size w w3) (ha:App w3 w5 vn vn') (hb5:Below w0.heap.size w3 w5)
 (ho:w5.ownsRow w0.heap.size 124 2 vn' (NO.length+1) (chVs wn++[.int .i64 z,u])) :
 RpI w0 (w5.setRow bo (toldC vp vn' R 0)) bo bf bt vp vn' Dp wp PU (fun k=>Dn k∨G k) (wn++[(z,u)]) (NO++[(z,L)]) F T R:=by
 have s3:=hb3.size;have s5:=ha.size
 obtain ⟨ap,an⟩:=h.apart
 have h3:=h.below hb3
 have q5:=h.q.add elseR hs (fun k hk=>⟨(hG k hk).1,(hG k hk).2.2.2⟩) hb3 ha ho
 have p5:OwnL TB w5 w0.heap.size 152 vp Dp wp PU:=h3.p.keepW elseB s5 fun k hl e=>ha.k k hl (by
  rcases e with e | e
  ·exact (h.dp k e).2.2.2
  ·exact fun g=>ownsRow_ne h.p.o h.q.o (by decide) k e g)
 have o5:At w5 bo _ _:=at_appd h3.o ha fun g=>(an _ g).1 rfl
 have f5:At w5 bf _ _:=at_appd h3.f ha fun g=>(an _ g).2.1 rfl
 have t5:At w5 bt _ _:=at_appd h3.t ha fun g=>(an _ g).2.2 rfl
 have bb:Below w0.heap.size w0 w5:=h3.b.trans hb5
 have pa:∀ k,vn'.ownBlock=some k→k≠bo:=fun k hk e=>by
  rw [e] at hk
  exact own_ne_at q5.o o5 (by decide) hk
 refine ⟨below_row bb h.ns.1 _,o5.row _,f5.row_other _ (at_apart h.f h.o (by decide)),t5.row_other _ (at_apart h.t h.o (by decide)),p5.keepW elseB (by simp) fun k _ e=>setRow_other _ _ k _ ?_,q5.keepW elseR (by simp) fun k _ e=>setRow_other _ _ k _ ?_,fun k hk=>?_,fun k hk=>?_,h.ns⟩
 ·rcases e with e | e
  ·exact (h.dp k e).1
  ·exact (ap k e).1
 ·rcases e with (e | e) | e
  ·exact (h.dn k e).1
  ·exact (hG k e).2.1.1
  ·exact pa k e
 ·obtain ⟨a,b,c,d⟩:=h.dp k hk
  exact ⟨a,b,c,app_own ha d (Nat.lt_of_lt_of_le (h.p.d k hk).1 s3)⟩
 ·rcases hk with hk | hk
  ·exact h.dn k hk
  ·obtain ⟨_,⟨a,b,c⟩,d,_⟩:=hG k hk
   exact ⟨a,b,c,d⟩
end
end Sha
end Go.Proofs.YtplmfmpbkjnbaaaGreatDoor
