/- Layer 16's law: alive (written by comalive.py). -/
import Derived.Test.YtlhnegbjoncieaaGreatDoorBL41
import Derived.Test.YtlhnegbjoncieaaGreatDoorBL09
import Derived.Test.YtlhnegbjoncieaaGreatDoorBL35
import Derived.Test.YtlhnegbjoncieaaGreatDoorBL16
import Derived.Test.YtlhnegbjoncieaaGreatDoorBL00
set_option maxRecDepth 100000
set_option maxHeartbeats 8000000
namespace Go.Proofs.YtlhnegbjoncieaaGreatDoor
namespace Sha
open Go.RowKit Mem
set_option maxRecDepth 100000
def r16:RefV:=⟨1,0,List.replicate 32 0⟩
theorem r16_wf:r16.Wf:=⟨by decide,by decide,by decide⟩
def K16:Lb8:=List.replicate 32 0
def z256:Lb8:=List.replicate 256 0
def N16:List NdV:=[(1,[r16])]
def C16:List ChV:=[(0,z256)]
theorem good16:GoodC 1 zref N16 C16:=⟨by decide,by decide,by decide +kernel,by decide,fun n hn r hr=>by rw [List.mem_singleton.1 hn] at hr;rw [List.mem_singleton.1 hr];exact r16_wf,zref_wf⟩
theorem itn16:itn 1=2:=by decide
theorem plan16:∃ x0 x1 R dg,planT K16 2 1 zref N16 C16=([(2,x0),(5,x1)],[(1,R)],⟨1,2,dg⟩,0)∧(⟨1,2,dg⟩:RefV).Wf:=by
 have e:planT K16 2 1 zref N16 C16=(putsC K16 2 1 zref N16 C16 (itn 1),ndsC K16 2 1 zref N16 C16 (itn 1),rootC K16 2 1 zref N16 C16 (itn 1),0):=if_pos ⟨good16.may,good16.rt⟩
 have t0:tchC 1 C16 0=true:=by decide +kernel
 have t1:tchC 1 C16 1=true:=by decide +kernel
 obtain ⟨p0,hp0,hl0⟩:=page_ok (key:=K16) (ep:=2) good16 (i:=0) (by decide) t0
 obtain ⟨p1,hp1,hl1⟩:=page_ok (key:=K16) (ep:=2) good16 (i:=1) (by decide) t1
 have s0:=(sel_ok (key:=K16) (ep:=2) good16 t0 hp0 hl0).2
 have s1:=(sel_ok (key:=K16) (ep:=2) good16 t1 hp1 hl1).2
 have b0:blkC 1 zref N16 0=2:=by decide +kernel
 have b1:blkC 1 zref N16 1=5:=by decide +kernel
 have o1:oplC 1 zref N16 1=0:=by decide +kernel
 have hw:(⟨1,2,digestOf (sealL K16 2 (blkC 1 zref N16 1:Nat) p1)⟩:RefV).Wf:=wf_dig _ _ _ (by decide) (by decide)
 have h1:=putsC_some s0
 have h2:=putsC_some s1
 have h3:=rootC_last (key:=K16) (ep:=2) (p:=1) (root:=zref) (N:=N16) (C:=C16) (by decide) (by decide) (s:=(sealL K16 2 (blkC 1 zref N16 1:Nat) p1,⟨1 - oplC 1 zref N16 1,2,digestOf (sealL K16 2 (blkC 1 zref N16 1:Nat) p1)⟩)) (by rw [itn16];exact s1)
 have h0:putsC K16 2 1 zref N16 C16 0=[]:=rfl
 have h4:ndsC K16 2 1 zref N16 C16 (itn 1)=[(1,refsC K16 2 1 zref N16 C16 1 1)]:=by
  unfold ndsC
  have:(List.range (itn 1)).filter (isN 1 (pgsC C16))=[1]:=by decide +kernel
  rw [this]
  rfl
 rw [h0,b0] at h1
 rw [h1,b1] at h2
 rw [o1,b1] at h3
 rw [b1] at hw
 rw [itn16] at e h3 h4
 rw [h2,h4,h3] at e
 exact ⟨sealL K16 2 (2:Nat) p0,sealL K16 2 (5:Nat) p1,refsC K16 2 1 zref N16 C16 1 1,digestOf (sealL K16 2 (5:Nat) p1),e,hw⟩
theorem need16:needI 1 [0]=[1]:=by decide +kernel
theorem build_r16 (w:World):(Instr.build 38 #[(0,.int .i64 1)]).run Tryz.prog w=.ok (.agg (refC r16)) w:=by kernel_rfl
theorem built_ch16 (w:World) (a2:Option Addr) (l c:Nat):(Instr.build 55 #[(1,.slice a2 l c)]).run Tryz.prog w=.ok (.agg (chRow 0 (.slice a2 l c))) w:=by
 unfold chRow
 kernel_rfl
theorem builtCh16 (z:Int) (a2:Option Addr) (l c:Nat):Tryz.prog.builtSlice 55 1 [(0,.agg (chRow z (.slice a2 l c)))]=some (chRow z (.slice a2 l c)):=by
 unfold chRow
 kernel_rfl
theorem slnd_one {w:World} {g:Nat} {u:Value} {t:TypeId} {z:Int} {L:List RefV} (h:At w g (ndRow z u) t) (hs:SlRf w u L):SlNd w (.slice (some ⟨g,0,none⟩) 1 1) [(z,L)]:=
 ⟨_,_,rfl,fun _=>⟨g,0,rfl,h.lt,fun i hi=>by
  have e:i=0:=by simp at hi;exact hi
  subst e
  exact ⟨(h.cell 0).trans rfl,u,(h.cell 1).trans rfl,hs⟩⟩⟩
theorem slch_one {w:World} {g:Nat} {u:Value} {t:TypeId} {z:Int} {l:Lb8} (h:At w g (chRow z u) t) (hs:Sl w u l):SlCh w (.slice (some ⟨g,0,none⟩) 1 1) [(z,l)]:=
 ⟨_,_,rfl,fun _=>⟨g,0,rfl,h.lt,fun i hi=>by
  have e:i=0:=by simp at hi;exact hi
  subst e
  exact ⟨(h.cell 0).trans rfl,u,(h.cell 1).trans rfl,hs⟩⟩⟩
theorem slrf_one {w:World} {g:Nat} {r:RefV} {t:TypeId} (h:At w g (refC r) t):SlRf w (.slice (some ⟨g,0,none⟩) 1 1) [r]:=
 ⟨_,_,rfl,fun _=>⟨g,0,rfl,h.lt,fun i hi=>by
  have e:i=0:=by simp at hi;exact hi
  subst e
  intro j v hv
  rw [Nat.zero_mul,Nat.zero_add,h.cell]
  simpa [refC] using hv⟩⟩
theorem slz_built (w:World):SlI (w.alloc (.cells #[.int .i64 0] 3)) (.slice (some ⟨w.heap.size,0,none⟩) 1 1) [0]:=
 ⟨_,_,rfl,Nat.le_refl _,fun _=>⟨w.heap.size,0,rfl,by simp,fun i hi=>by
  have e:i=0:=by simp at hi;exact hi
  subst e
  exact (at_new w #[.int .i64 0] 3).cell 0⟩⟩
def alFA (n:Nat) (g:Nat) (w:World):Prop:=match n with
 | 0=>True
 | 1=>At w g (refC r16) 38
 | _=>SlNd w (.slice (some ⟨g,0,none⟩) 1 1) N16
def alFB (n:Nat) (g:Nat) (w:World):Prop:=match n with
 | 0=>True
 | 1=>Sl w (.slice (some ⟨g,0,none⟩) 256 256) z256
 | _=>SlCh w (.slice (some ⟨g,0,none⟩) 1 1) C16
def alFC (n:Nat) (g:Nat) (w:World):Prop:=match n with
 | 0=>True
 | _=>At w g (refC zref) 38
theorem alFA.below {n g:Nat} {w w':World} (h:alFA n g w) (hb:Below w.heap.size w w'):alFA n g w':=by
 match n,h with
 | 0,_=>trivial
 | 1,h=>exact At.below h hb (At.lt h)
 | _+2,h=>exact SlNd.below h hb
theorem alFB.below {n g:Nat} {w w':World} (h:alFB n g w) (hb:Below w.heap.size w w'):alFB n g w':=by
 match n,h with
 | 0,_=>trivial
 | 1,h=>exact Sl.below h hb
 | _+2,h=>exact SlCh.below h hb
theorem alFC.below {n g:Nat} {w w':World} (h:alFC n g w) (hb:Below w.heap.size w w'):alFC n g w':=by
 match n,h with
 | 0,_=>trivial
 | _+1,h=>exact At.below h hb (At.lt h)
def alLA (n:Nat) (g:Nat) (x y:Value):List (Nat × Value):=match n with
 | 0=>[]
 | 1=>[(16,.slice (some ⟨g,0,none⟩) 1 1),(17,.agg (ndRow 1 (.slice (some ⟨g,0,none⟩) 1 1)))]
 | _=>[(16,x),(17,y),(18,.slice (some ⟨g,0,none⟩) 1 1)]
def alLB (n:Nat) (g:Nat) (x y:Value):List (Nat × Value):=match n with
 | 0=>[]
 | 1=>[(19,.slice (some ⟨g,0,none⟩) 256 256),(20,.agg (chRow 0 (.slice (some ⟨g,0,none⟩) 256 256)))]
 | _=>[(19,x),(20,y),(21,.slice (some ⟨g,0,none⟩) 1 1)]
def alLC (n:Nat) (g:Nat):List (Nat × Value):=match n with
 | 0=>[]
 | _=>[(5,.pointer (some ⟨g,0,none⟩))]
def J16 (a0:Act) (w0:World) (i j k:Nat) (a:Act) (w:World):Prop:=∃ ga gb gc xa ya xb yb,a=setA a0 (alLA i ga xa ya++alLB j gb xb yb++alLC k gc)∧alFA i ga w∧alFB j gb w∧alFC k gc w∧Below w0.heap.size w0 w∧(0 < k→w0.heap.size≤gc)
theorem alive16_any (w:World) (hT:TT w):Calls Tryz.prog 8 #[] w (VEnd (.bool true) w):=by
 obtain ⟨x0,x1,RN,dg,hpl,hrw⟩:=plan16
 have nw:=fun wx=>pnew_good 1 wx (by decide) (by decide)
 have pln:=fun vn vc wx (h:Below w.heap.size w wx) (hn:SlNd wx vn N16) (hc:SlCh wx vc C16)=>pplan16_any K16 2 1 zref N16 C16 vn vc wx (hT.below h) (by decide) zref_wf hn hc ⟨by decide,fun x hx=>by rw [List.mem_singleton.1 hx];decide,fun x hx r hr=>by rw [List.mem_singleton.1 hx] at hr;rw [List.mem_singleton.1 hr];exact r16_wf⟩ (by decide) (by decide) (by decide)
 rw [hpl] at pln
 have ndd:=fun vx wx h=>pneed_any 1 [0] vx wx h (by decide) (by decide)
 rw [need16] at ndd
 obtain ⟨i8,hi8,hz8,hs8,hb8⟩:=info_parts infoU8
 have kcs:(u8s K16).toArray.size=32:=by decide
 have bk:∀ wx:World,(Instr.build 22 #[]).run Tryz.prog wx=.ok (.agg (u8s K16).toArray) wx:=build_K014
 have hrb:=buildRf14
 have hr1:=build_r16
 have rs:=refC_size hrw;have ro:=refC_one ⟨1,2,dg⟩;have r0:=ref0 ⟨1,2,dg⟩;have r1:=ref1 ⟨1,2,dg⟩
 obtain ⟨RE,hRE⟩:∃ R,R=refC ⟨1,2,dg⟩:=⟨_,rfl⟩
 have hx:=zeroPS
 have zs:(refC zref).size=34:=refC_size zref_wf
 have al:∀ wx:World,(Instr.alloc 38 true (.tuple #[])).run Tryz.prog wx=.ok (.pointer (some ⟨wx.heap.size,0,none⟩)) (wx.alloc (.cells (refC zref) 38)):=fun wx=>by kernel_rfl
 obtain ⟨C,hC⟩:∃ C,C=psC 1:=⟨_,rfl⟩
 obtain ⟨Y,hYs⟩:∃ C,C=psC 0:=⟨_,rfl⟩
 have cs:C.size=1:=by rw [hC];rfl
 have co:C.all (·.oneCell')=true:=by rw [hC];exact psC_one 1
 have ys:Y.size=1:=by rw [hYs];rfl
 obtain ⟨KC,hKC⟩:∃ K,K=(u8s K16).toArray:=⟨_,rfl⟩
 unfold PlEnd at pln
 have pln:∀ vn vc wx,Below w.heap.size w wx→SlNd wx vn N16→SlCh wx vc C16→Calls Tryz.prog 11 #[.pointer none,.agg (u8s K16).toArray,.int .u32 2,.agg (psC 1),.agg (refC zref),vn,vc] wx (fun e w'=>∃ vp vn,e=.returned (.tuple #[vp,vn,.agg (refC ⟨1,2,dg⟩),.int .i64 0])∧WPut (fun k=>wx.heap.size≤k) w' vp [(2,x0),(5,x1)]∧SlNd w' vn [(1,RN)]∧Below wx.heap.size wx w'):=fun vn vc wx h hn hc=>(pln vn vc wx h hn hc).mono fun _ _ ⟨a,b,c,d,e,f⟩=>⟨a,b,c,d,e.sl,f⟩
 have nw:∀ wx,Calls Tryz.prog 41 #[.int .i64 1] wx (fun e w'=>e=.returned (.tuple #[.agg (psC 1),.int .i64 0])∧Below wx.heap.size wx w'):=nw
 rw [←hC] at nw pln ndd
 rw [←hYs] at hx
 rw [←hKC] at pln bk kcs
 rw [←hRE] at pln rs ro r0 r1
 have NW:=zh nw;have PLN:=zh pln;have NDD:=zh ndd;have I8:=zh hi8;have Z8:=zh hz8;have S8:=zh hs8;have B8':=zh hb8;have BK:=zh bk;have RB:=zh hrb;have R1B:=zh hr1;have RS:=zh rs;have REO:=zh ro;have R0:=zh r0;have R1:=zh r1;have ZS:=zh zs;have AL:=zh al;have CS:=zh cs;have CO:=zh co;have YS:=zh ys
 clear nw pln ndd hi8 hz8 hs8 hb8 bk hrb hr1 rs ro r0 r1 zs al cs co ys hRE hC hYs hKC hpl hrw hT kcs
 go_enter Tryz.func8,Tryz.ntmps8
 go_wp2_with fail
 refine (NW.out _).mono ?_
 rintro e w1 ⟨rfl,hb1⟩
 have A1:=zh (at_new w1 C 26);have B1:Hid (Below w.heap.size w (w1.alloc (.cells C 26))):=zh (hb1.alloc hb1.size _)
 clear hb1
 go_upto_region 2 with (refine wpList_store_new zr 26 _ _ zr zr C _ _ zr zr (by rw [CS.out];exact infoPS) (by rw [YS.out,CS.out]) CO.out ?_)
 clear hx
 obtain ⟨bs,hbs⟩:∃ b,b=w1.heap.size:=⟨_,rfl⟩
 rw [←hbs] at A1 ⊢
 clear hbs
 generalize w1.alloc (.cells C 26)=w2 at *
 go_cut [3,4,5,6] (fun s t u v wx=>∃ vp g an cn,vp=s∧.slice an 1 cn=t∧.pointer (some ⟨g,0,none⟩)=u∧v=.int .i64 0∧At wx g RE 38∧WPut (fun _=>True) wx vp [(2,x0),(5,x1)]∧Below w2.heap.size w2 wx)
 case first=>
  refine wp_region_plan_in (fun x'=>Below w2.heap.size w2 x') (.take 0 (.take 1 (.take 2 (.take 3 (.three 4 7 16 (.take 5 (.three 6 7 16 (.two 7 16 (.take 8 (.two 9 16 (.two 10 16 (.take 11 (.take 12 (.take 13 (.take 14 (.take 15 (.sole 16 (.take 17 (.take 18 (.sole 19 (.take 20 .done)))))))))) (.sole 10 (.take 11 (.take 12 (.take 13 (.take 14 (.take 15 (.take 17 (.take 18 (.sole 19 (.take 20 .done))))))))))) (.sole 9 (.sole 10 (.take 11 (.take 12 (.take 13 (.take 14 (.take 15 (.take 17 (.take 18 (.sole 19 (.take 20 .done))))))))))))) (.sole 7 (.take 8 (.sole 9 (.sole 10 (.take 11 (.take 12 (.take 13 (.take 14 (.take 15 (.take 17 (.take 18 (.sole 19 (.take 20 .done)))))))))))))) (.take 8 (.three 6 9 16 (.two 9 16 (.two 10 16 (.take 11 (.take 12 (.take 13 (.take 14 (.take 15 (.sole 16 (.take 17 (.take 18 (.sole 19 (.take 20 .done)))))))))) (.sole 10 (.take 11 (.take 12 (.take 13 (.take 14 (.take 15 (.take 17 (.take 18 (.sole 19 (.take 20 .done))))))))))) (.sole 9 (.sole 10 (.take 11 (.take 12 (.take 13 (.take 14 (.take 15 (.take 17 (.take 18 (.sole 19 (.take 20 .done)))))))))))) (.two 6 16 (.two 10 16 (.take 11 (.take 12 (.take 13 (.take 14 (.take 15 (.sole 16 (.take 17 (.take 18 (.sole 19 (.take 20 .done)))))))))) (.sole 10 (.take 11 (.take 12 (.take 13 (.take 14 (.take 15 (.take 17 (.take 18 (.sole 19 (.take 20 .done))))))))))) (.sole 6 (.sole 10 (.take 11 (.take 12 (.take 13 (.take 14 (.take 15 (.take 17 (.take 18 (.sole 19 (.take 20 .done)))))))))))) (.two 6 9 (.sole 9 (.sole 10 (.take 11 (.take 12 (.take 13 (.take 14 (.take 15 (.take 17 (.take 18 (.sole 19 (.take 20 .done))))))))))) (.sole 6 (.sole 10 (.take 11 (.take 12 (.take 13 (.take 14 (.take 15 (.take 17 (.take 18 (.sole 19 (.take 20 .done)))))))))))))) (.two 6 7 (.sole 7 (.take 8 (.sole 9 (.sole 10 (.take 11 (.take 12 (.take 13 (.take 14 (.take 15 (.take 17 (.take 18 (.sole 19 (.take 20 .done))))))))))))) (.take 8 (.two 6 9 (.sole 9 (.sole 10 (.take 11 (.take 12 (.take 13 (.take 14 (.take 15 (.take 17 (.take 18 (.sole 19 (.take 20 .done))))))))))) (.sole 6 (.sole 10 (.take 11 (.take 12 (.take 13 (.take 14 (.take 15 (.take 17 (.take 18 (.sole 19 (.take 20 .done)))))))))))))))) (.take 8 (.three 4 9 16 (.take 5 (.three 6 9 16 (.two 9 16 (.two 10 16 (.take 11 (.take 12 (.take 13 (.take 14 (.take 15 (.sole 16 (.take 17 (.take 18 (.sole 19 (.take 20 .done)))))))))) (.sole 10 (.take 11 (.take 12 (.take 13 (.take 14 (.take 15 (.take 17 (.take 18 (.sole 19 (.take 20 .done))))))))))) (.sole 9 (.sole 10 (.take 11 (.take 12 (.take 13 (.take 14 (.take 15 (.take 17 (.take 18 (.sole 19 (.take 20 .done)))))))))))) (.two 6 16 (.two 10 16 (.take 11 (.take 12 (.take 13 (.take 14 (.take 15 (.sole 16 (.take 17 (.take 18 (.sole 19 (.take 20 .done)))))))))) (.sole 10 (.take 11 (.take 12 (.take 13 (.take 14 (.take 15 (.take 17 (.take 18 (.sole 19 (.take 20 .done))))))))))) (.sole 6 (.sole 10 (.take 11 (.take 12 (.take 13 (.take 14 (.take 15 (.take 17 (.take 18 (.sole 19 (.take 20 .done)))))))))))) (.two 6 9 (.sole 9 (.sole 10 (.take 11 (.take 12 (.take 13 (.take 14 (.take 15 (.take 17 (.take 18 (.sole 19 (.take 20 .done))))))))))) (.sole 6 (.sole 10 (.take 11 (.take 12 (.take 13 (.take 14 (.take 15 (.take 17 (.take 18 (.sole 19 (.take 20 .done)))))))))))))) (.two 4 16 (.take 5 (.two 6 16 (.two 10 16 (.take 11 (.take 12 (.take 13 (.take 14 (.take 15 (.sole 16 (.take 17 (.take 18 (.sole 19 (.take 20 .done)))))))))) (.sole 10 (.take 11 (.take 12 (.take 13 (.take 14 (.take 15 (.take 17 (.take 18 (.sole 19 (.take 20 .done))))))))))) (.sole 6 (.sole 10 (.take 11 (.take 12 (.take 13 (.take 14 (.take 15 (.take 17 (.take 18 (.sole 19 (.take 20 .done))))))))))))) (.sole 4 (.take 5 (.sole 6 (.sole 10 (.take 11 (.take 12 (.take 13 (.take 14 (.take 15 (.take 17 (.take 18 (.sole 19 (.take 20 .done)))))))))))))) (.two 4 9 (.take 5 (.two 6 9 (.sole 9 (.sole 10 (.take 11 (.take 12 (.take 13 (.take 14 (.take 15 (.take 17 (.take 18 (.sole 19 (.take 20 .done))))))))))) (.sole 6 (.sole 10 (.take 11 (.take 12 (.take 13 (.take 14 (.take 15 (.take 17 (.take 18 (.sole 19 (.take 20 .done))))))))))))) (.sole 4 (.take 5 (.sole 6 (.sole 10 (.take 11 (.take 12 (.take 13 (.take 14 (.take 15 (.take 17 (.take 18 (.sole 19 (.take 20 .done)))))))))))))))) (.two 4 7 (.take 5 (.two 6 7 (.sole 7 (.take 8 (.sole 9 (.sole 10 (.take 11 (.take 12 (.take 13 (.take 14 (.take 15 (.take 17 (.take 18 (.sole 19 (.take 20 .done))))))))))))) (.take 8 (.two 6 9 (.sole 9 (.sole 10 (.take 11 (.take 12 (.take 13 (.take 14 (.take 15 (.take 17 (.take 18 (.sole 19 (.take 20 .done))))))))))) (.sole 6 (.sole 10 (.take 11 (.take 12 (.take 13 (.take 14 (.take 15 (.take 17 (.take 18 (.sole 19 (.take 20 .done))))))))))))))) (.take 8 (.two 4 9 (.take 5 (.two 6 9 (.sole 9 (.sole 10 (.take 11 (.take 12 (.take 13 (.take 14 (.take 15 (.take 17 (.take 18 (.sole 19 (.take 20 .done))))))))))) (.sole 6 (.sole 10 (.take 11 (.take 12 (.take 13 (.take 14 (.take 15 (.take 17 (.take 18 (.sole 19 (.take 20 .done))))))))))))) (.sole 4 (.take 5 (.sole 6 (.sole 10 (.take 11 (.take 12 (.take 13 (.take 14 (.take 15 (.take 17 (.take 18 (.sole 19 (.take 20 .done))))))))))))))))))))) (by kernel_rfl) (by kernel_rfl) (by kernel_rfl) (Below.refl _ _).drew ?_
  refine plan_build 22 _ #[] (.agg KC) zr zr zr (by first | rfl | simp) BK.out ?_
  (simp only [Mem.zp,Mem.pb,Mem.pc])
  refine plan_row 26 _ bs _ C 26 zr zr zr ze (fun w' hw'=>A1.out.below hw' A1.out.lt) Tryz.underlying26 zr (by rw [CS.out];exact infoPS) ?_
  (simp only [Mem.zp,Mem.pb,Mem.pc])
  refine plan_build 38 _ #[] (.agg (refC zref)) zr zr zr (by first | rfl | simp) RB.out ?_
  (simp only [Mem.zp,Mem.pb,Mem.pc])
  refine plan_build 38 _ #[(0,.int .i64 1)] (.agg (refC r16)) zr zr zr (by first | rfl | simp [Act.eval]) R1B.out ?_
  (simp only [Mem.zp,Mem.pb,Mem.pc])
  refine plan_act ?_
  intro a0 ha0
  refine plan_lem (J16 a0 w2 2 2 1) (.sole 10 (.take 11 (.take 12 (.take 13 (.take 14 (.take 15 (.take 17 (.take 18 (.sole 19 (.take 20 .done)))))))))) ?_ (fun T221=>?_)
  ·rintro ax wx ⟨ga,gb,gc,xa,ya,xb,yb,rfl,hA,hB,hC,hD,hG⟩
   have HA:=zh hA;have HBB:=zh hB;have HC:=zh hC;have HB0:=zh hD;have HG:=zh hG
   clear hA hB hC hD hG
   rw [ha0]
   (simp only [setA,alLA,alLB,alLC,List.cons_append,List.nil_append,List.foldl_cons,List.foldl_nil,List.setIfInBounds_toArray,List.set_cons_zero,List.set_cons_succ])
   refine plan_call 11 _ _ _ (by kernel_rfl) zr zr zr (by first | exact Mem.ev_none _ | (simp only [List.map_toArray,List.map_cons,List.map_nil,Mem.ev_tmp,List.getD_cons_succ,List.getD_cons_zero] <;> rfl)) ?_
   refine (PLN.out _ _ _ (B1.out.trans (HB0.out.mono B1.out.size)) HA.out HBB.out).mono ?_
   rintro e' wy ⟨vp,vn,rfl,hwp,hwn,hby⟩
   have D1:Hid (Below w2.heap.size w2 wy):=zh (HB0.out.trans (hby.mono HB0.out.size))
   have WP:=zh hwp
   obtain ⟨an,cn,hvn⟩:=hwn.hd
   have VN:=zh hvn
   have CY:=zh (HC.out.below hby)
   clear hwp hwn hby hvn
   refine ⟨_,rfl,D1.out,?_⟩
   (simp only [Mem.zp,Mem.pb,Mem.pc])
   (first | refine Mem.pm1 ?_ | refine Mem.pm2 ?_ | refine Mem.pt ?_ | refine Mem.pf ?_)
   (simp only [Mem.zp,Mem.pb,Mem.pc])
   refine plan_extract _ _ #[vp,vn,.agg RE,.int .i64 0] vp zr zr zr ze zr ?_
   (simp only [Mem.zp,Mem.pb,Mem.pc])
   refine plan_extract _ _ #[vp,vn,.agg RE,.int .i64 0] vn zr zr zr ze zr ?_
   (simp only [Mem.zp,Mem.pb,Mem.pc])
   refine plan_extract _ _ #[vp,vn,.agg RE,.int .i64 0] (.agg RE) zr zr zr ze zr ?_
   (simp only [Mem.zp,Mem.pb,Mem.pc])
   refine plan_extract _ _ #[vp,vn,.agg RE,.int .i64 0] (.int .i64 0) zr zr zr ze zr ?_
   (simp only [Mem.zp,Mem.pb,Mem.pc])
   have GY:Hid (w2.heap.size≤gc):=zh (HG.out (by decide))
   have GX:Hid (gc < wx.heap.size):=zh HC.out.lt
   have WQ:Hid (WPut (fun _=>True) (wy.setRow gc RE) vp [(2,x0),(5,x1)]):=zh ((WPut.keep WP.out (by simp) fun k hk _=>setRow_other _ _ k _ (by have:=GX.out;omega)).mono fun _ _ _=>trivial)
   iterate 2 ((first | refine Mem.pm1 ?_ | refine Mem.pm2 ?_ | refine Mem.pt ?_ | refine Mem.pf ?_);(simp only [Mem.zp,Mem.pb,Mem.pc]))
   refine plan_store 38 _ _ (gc) RE (refC zref) 38 zr zr zr zr ze ze (by rw [RS.out];exact infoRfP) CY.out (by rw [RS.out,ZS.out]) REO.out (below_row D1.out GY.out RE) ?_
   (first | refine Mem.pm1 ?_ | refine Mem.pm2 ?_ | refine Mem.pt ?_ | refine Mem.pf ?_)
   (simp only [Mem.zp,Mem.pb,Mem.pc])
   refine plan_nil ?_
   go_wp2_with fail
   go_meet
   exact ⟨vp,_,an,cn,rfl,VN.out.symm,rfl,rfl,At.row (C:=refC zref) CY.out RE,WQ.out,below_row D1.out GY.out RE⟩
  refine plan_lem (J16 a0 w2 2 2 0) (.two 10 16 (.take 11 (.take 12 (.take 13 (.take 14 (.take 15 (.sole 16 (.take 17 (.take 18 (.sole 19 (.take 20 .done)))))))))) (.sole 10 (.take 11 (.take 12 (.take 13 (.take 14 (.take 15 (.take 17 (.take 18 (.sole 19 (.take 20 .done))))))))))) ?_ (fun T220=>?_)
  ·rintro ax wx ⟨ga,gb,gc,xa,ya,xb,yb,rfl,hA,hB,hC,hD,hG⟩
   have HA:=zh hA;have HBB:=zh hB;have HC:=zh hC;have HB0:=zh hD;have HG:=zh hG
   clear hA hB hC hD hG
   rw [ha0]
   (simp only [setA,alLA,alLB,alLC,List.cons_append,List.nil_append,List.append_nil,List.foldl_cons,List.foldl_nil,List.setIfInBounds_toArray,List.set_cons_zero,List.set_cons_succ])
   refine plan_two ?_ ?_
   ·refine plan_call 11 _ _ _ (by kernel_rfl) zr zr zr (by first | exact Mem.ev_none _ | (simp only [List.map_toArray,List.map_cons,List.map_nil,Mem.ev_tmp,List.getD_cons_succ,List.getD_cons_zero] <;> rfl)) ?_
    refine (PLN.out _ _ _ (B1.out.trans (HB0.out.mono B1.out.size)) HA.out HBB.out).mono ?_
    rintro e' wy ⟨vp,vn,rfl,hwp,hwn,hby⟩
    have D1:Hid (Below w2.heap.size w2 wy):=zh (HB0.out.trans (hby.mono HB0.out.size))
    have WP:=zh hwp
    obtain ⟨an,cn,hvn⟩:=hwn.hd
    have VN:=zh hvn
    have CY:=zh (HC.out.below hby)
    clear hwp hwn hby hvn
    refine ⟨_,rfl,D1.out,?_⟩
    (simp only [Mem.zp,Mem.pb,Mem.pc])
    (first | refine Mem.pm1 ?_ | refine Mem.pm2 ?_ | refine Mem.pt ?_ | refine Mem.pf ?_)
    (simp only [Mem.zp,Mem.pb,Mem.pc])
    refine plan_extract _ _ #[vp,vn,.agg RE,.int .i64 0] vp zr zr zr ze zr ?_
    (simp only [Mem.zp,Mem.pb,Mem.pc])
    refine plan_extract _ _ #[vp,vn,.agg RE,.int .i64 0] vn zr zr zr ze zr ?_
    (simp only [Mem.zp,Mem.pb,Mem.pc])
    refine plan_extract _ _ #[vp,vn,.agg RE,.int .i64 0] (.agg RE) zr zr zr ze zr ?_
    (simp only [Mem.zp,Mem.pb,Mem.pc])
    refine plan_extract _ _ #[vp,vn,.agg RE,.int .i64 0] (.int .i64 0) zr zr zr ze zr ?_
    (simp only [Mem.zp,Mem.pb,Mem.pc])
    refine plan_alloc _ (refC zref) zr zr zr AL.out (D1.out.alloc D1.out.size _) ?_
    (simp only [Mem.zp,Mem.pb,Mem.pc])
    have hq:Below wy.heap.size wy (wy.alloc (.cells (refC zref) 38)):=(Below.refl _ _).alloc (Nat.le_refl _) (.cells (refC zref) 38)
    have CY:Hid (At (wy.alloc (.cells (refC zref) 38)) wy.heap.size (refC zref) 38):=zh (at_new wy (refC zref) 38)
    have GY:Hid (w2.heap.size≤wy.heap.size):=zh D1.out.size
    have D1:Hid (Below w2.heap.size w2 (wy.alloc (.cells (refC zref) 38))):=zh (D1.out.alloc D1.out.size _)
    have WQ:Hid (WPut (fun _=>True) ((wy.alloc (.cells (refC zref) 38)).setRow wy.heap.size RE) vp [(2,x0),(5,x1)]):=zh ((WPut.keep WP.out (by simp) fun k _ hl=>(setRow_other _ _ k _ (by omega)).trans (hq.block k hl)).mono fun _ _ _=>trivial)
    iterate 2 ((first | refine Mem.pm1 ?_ | refine Mem.pm2 ?_ | refine Mem.pt ?_ | refine Mem.pf ?_);(simp only [Mem.zp,Mem.pb,Mem.pc]))
    refine plan_store 38 _ _ (wy.heap.size) RE (refC zref) 38 zr zr zr zr ze ze (by rw [RS.out];exact infoRfP) CY.out (by rw [RS.out,ZS.out]) REO.out (below_row D1.out GY.out RE) ?_
    (first | refine Mem.pm1 ?_ | refine Mem.pm2 ?_ | refine Mem.pt ?_ | refine Mem.pf ?_)
    (simp only [Mem.zp,Mem.pb,Mem.pc])
    refine plan_nil ?_
    go_wp2_with fail
    go_meet
    exact ⟨vp,_,an,cn,rfl,VN.out.symm,rfl,rfl,At.row (C:=refC zref) CY.out RE,WQ.out,below_row D1.out GY.out RE⟩
   ·refine plan_alloc _ (refC zref) zr zr zr AL.out (HB0.out.alloc HB0.out.size _) ?_
    (simp only [Mem.zp,Mem.pb,Mem.pc])
    have hq:Below wx.heap.size wx (wx.alloc (.cells (refC zref) 38)):=(Below.refl _ _).alloc (Nat.le_refl _) (.cells (refC zref) 38)
    exact T221 _ _ ⟨ga,gb,wx.heap.size,xa,ya,xb,yb,by (rw [ha0];rfl),HA.out.below hq,HBB.out.below hq,at_new wx (refC zref) 38,HB0.out.alloc HB0.out.size _,fun _=>HB0.out.size⟩
  refine plan_lem (J16 a0 w2 2 1 1) (.sole 9 (.sole 10 (.take 11 (.take 12 (.take 13 (.take 14 (.take 15 (.take 17 (.take 18 (.sole 19 (.take 20 .done))))))))))) ?_ (fun T211=>?_)
  ·rintro ax wx ⟨ga,gb,gc,xa,ya,xb,yb,rfl,hA,hB,hC,hD,hG⟩
   have HA:=zh hA;have HBB:=zh hB;have HC:=zh hC;have HB0:=zh hD;have HG:=zh hG
   clear hA hB hC hD hG
   rw [ha0]
   (simp only [setA,alLA,alLB,alLC,List.cons_append,List.nil_append,List.foldl_cons,List.foldl_nil,List.setIfInBounds_toArray,List.set_cons_zero,List.set_cons_succ])
   refine plan_slice 46 55 1 _ (chRow 0 (.slice (some ⟨gb,0,none⟩) 256 256)) zr zr zr Tryz.underlying46 (by first | exact builtCh16 0 _ _ _ | (simp [Act.eval];exact builtCh16 0 _ _ _)) (HB0.out.alloc HB0.out.size _) ?_
   (simp only [Mem.zp,Mem.pb,Mem.pc])
   have hq:Below wx.heap.size wx (wx.alloc (.cells (chRow 0 (.slice (some ⟨gb,0,none⟩) 256 256)) 55)):=(Below.refl _ _).alloc (Nat.le_refl _) (.cells (chRow 0 (.slice (some ⟨gb,0,none⟩) 256 256)) 55)
   have hsl:Sl wx (.slice (some ⟨gb,0,none⟩) 256 256) z256:=HBB.out
   exact T221 _ _ ⟨ga,wx.heap.size,gc,xa,ya,_,_,by (rw [ha0];rfl),HA.out.below hq,slch_one (at_new wx (chRow 0 (.slice (some ⟨gb,0,none⟩) 256 256)) 55) (hsl.below hq),HC.out.below hq,HB0.out.alloc HB0.out.size _,HG.out⟩
  refine plan_lem (J16 a0 w2 1 2 1) (.sole 6 (.sole 10 (.take 11 (.take 12 (.take 13 (.take 14 (.take 15 (.take 17 (.take 18 (.sole 19 (.take 20 .done))))))))))) ?_ (fun T121=>?_)
  ·rintro ax wx ⟨ga,gb,gc,xa,ya,xb,yb,rfl,hA,hB,hC,hD,hG⟩
   have HA:=zh hA;have HBB:=zh hB;have HC:=zh hC;have HB0:=zh hD;have HG:=zh hG
   clear hA hB hC hD hG
   rw [ha0]
   (simp only [setA,alLA,alLB,alLC,List.cons_append,List.nil_append,List.foldl_cons,List.foldl_nil,List.setIfInBounds_toArray,List.set_cons_zero,List.set_cons_succ])
   refine plan_slice 41 118 1 _ (ndRow 1 (.slice (some ⟨ga,0,none⟩) 1 1)) zr zr zr Tryz.underlying41 (by first | exact builtNd 1 _ _ _ | (simp [Act.eval];exact builtNd 1 _ _ _)) (HB0.out.alloc HB0.out.size _) ?_
   (simp only [Mem.zp,Mem.pb,Mem.pc])
   have hq:Below wx.heap.size wx (wx.alloc (.cells (ndRow 1 (.slice (some ⟨ga,0,none⟩) 1 1)) 118)):=(Below.refl _ _).alloc (Nat.le_refl _) (.cells (ndRow 1 (.slice (some ⟨ga,0,none⟩) 1 1)) 118)
   have hsr:SlRf wx (.slice (some ⟨ga,0,none⟩) 1 1) [r16]:=slrf_one (r:=r16) HA.out
   exact T221 _ _ ⟨wx.heap.size,gb,gc,_,_,xb,yb,by (rw [ha0];rfl),slnd_one (at_new wx (ndRow 1 (.slice (some ⟨ga,0,none⟩) 1 1)) 118) (hsr.below hq),HBB.out.below hq,HC.out.below hq,HB0.out.alloc HB0.out.size _,HG.out⟩
  refine plan_lem (J16 a0 w2 2 1 0) (.two 9 16 (.two 10 16 (.take 11 (.take 12 (.take 13 (.take 14 (.take 15 (.sole 16 (.take 17 (.take 18 (.sole 19 (.take 20 .done)))))))))) (.sole 10 (.take 11 (.take 12 (.take 13 (.take 14 (.take 15 (.take 17 (.take 18 (.sole 19 (.take 20 .done))))))))))) (.sole 9 (.sole 10 (.take 11 (.take 12 (.take 13 (.take 14 (.take 15 (.take 17 (.take 18 (.sole 19 (.take 20 .done)))))))))))) ?_ (fun T210=>?_)
  ·rintro ax wx ⟨ga,gb,gc,xa,ya,xb,yb,rfl,hA,hB,hC,hD,hG⟩
   have HA:=zh hA;have HBB:=zh hB;have HC:=zh hC;have HB0:=zh hD;have HG:=zh hG
   clear hA hB hC hD hG
   rw [ha0]
   (simp only [setA,alLA,alLB,alLC,List.cons_append,List.nil_append,List.append_nil,List.foldl_cons,List.foldl_nil,List.setIfInBounds_toArray,List.set_cons_zero,List.set_cons_succ])
   refine plan_two ?_ ?_
   ·refine plan_slice 46 55 1 _ (chRow 0 (.slice (some ⟨gb,0,none⟩) 256 256)) zr zr zr Tryz.underlying46 (by first | exact builtCh16 0 _ _ _ | (simp [Act.eval];exact builtCh16 0 _ _ _)) (HB0.out.alloc HB0.out.size _) ?_
    (simp only [Mem.zp,Mem.pb,Mem.pc])
    have hq:Below wx.heap.size wx (wx.alloc (.cells (chRow 0 (.slice (some ⟨gb,0,none⟩) 256 256)) 55)):=(Below.refl _ _).alloc (Nat.le_refl _) (.cells (chRow 0 (.slice (some ⟨gb,0,none⟩) 256 256)) 55)
    have hsl:Sl wx (.slice (some ⟨gb,0,none⟩) 256 256) z256:=HBB.out
    exact T220 _ _ ⟨ga,wx.heap.size,gc,xa,ya,_,_,by (rw [ha0];rfl),HA.out.below hq,slch_one (at_new wx (chRow 0 (.slice (some ⟨gb,0,none⟩) 256 256)) 55) (hsl.below hq),HC.out.below hq,HB0.out.alloc HB0.out.size _,HG.out⟩
   ·refine plan_alloc _ (refC zref) zr zr zr AL.out (HB0.out.alloc HB0.out.size _) ?_
    (simp only [Mem.zp,Mem.pb,Mem.pc])
    have hq:Below wx.heap.size wx (wx.alloc (.cells (refC zref) 38)):=(Below.refl _ _).alloc (Nat.le_refl _) (.cells (refC zref) 38)
    exact T211 _ _ ⟨ga,gb,wx.heap.size,xa,ya,xb,yb,by (rw [ha0];rfl),HA.out.below hq,HBB.out.below hq,at_new wx (refC zref) 38,HB0.out.alloc HB0.out.size _,fun _=>HB0.out.size⟩
  refine plan_lem (J16 a0 w2 2 0 1) (.sole 7 (.take 8 (.sole 9 (.sole 10 (.take 11 (.take 12 (.take 13 (.take 14 (.take 15 (.take 17 (.take 18 (.sole 19 (.take 20 .done))))))))))))) ?_ (fun T201=>?_)
  ·rintro ax wx ⟨ga,gb,gc,xa,ya,xb,yb,rfl,hA,hB,hC,hD,hG⟩
   have HA:=zh hA;have HBB:=zh hB;have HC:=zh hC;have HB0:=zh hD;have HG:=zh hG
   clear hA hB hC hD hG
   rw [ha0]
   (simp only [setA,alLA,alLB,alLC,List.cons_append,List.nil_append,List.append_nil,List.foldl_cons,List.foldl_nil,List.setIfInBounds_toArray,List.set_cons_zero,List.set_cons_succ])
   refine plan_make _ _ 31 zr zr zr wx.heap.size 5 i8 (.int .u8 0) 1 Tryz.underlying31 I8.out Z8.out S8.out .i64 .i64 256 zr zr (by rw [B8'.out];omega) (by simp [maxLen]) (Nat.le_refl _) ?_
   intro wy ho hg
   have hq:Below wx.heap.size wx wy:=(Below.refl _ _).grown hg (Nat.le_refl _) (fun _ h=>by cases h)
   have hat:At wy wx.heap.size (u8s z256).toArray 5:=by have h:=own_full ho;rw [made_zeros] at h;exact h
   refine ⟨HB0.out.trans (hq.mono HB0.out.size),?_⟩
   (simp only [Mem.zp,Mem.pb,Mem.pc])
   refine plan_build 55 _ #[(1,.slice (some ⟨wx.heap.size,0,none⟩) 256 256)] (.agg (chRow 0 (.slice (some ⟨wx.heap.size,0,none⟩) 256 256))) zr zr zr (by first | rfl | simp [Act.eval]) (fun wy=>built_ch16 wy _ _ _) ?_
   (simp only [Mem.zp,Mem.pb,Mem.pc])
   exact T211 _ _ ⟨ga,wx.heap.size,gc,xa,ya,xb,yb,by (rw [ha0];rfl),HA.out.below hq,at_sl hat (by decide),HC.out.below hq,HB0.out.trans (hq.mono HB0.out.size),HG.out⟩
  refine plan_lem (J16 a0 w2 1 2 0) (.two 6 16 (.two 10 16 (.take 11 (.take 12 (.take 13 (.take 14 (.take 15 (.sole 16 (.take 17 (.take 18 (.sole 19 (.take 20 .done)))))))))) (.sole 10 (.take 11 (.take 12 (.take 13 (.take 14 (.take 15 (.take 17 (.take 18 (.sole 19 (.take 20 .done))))))))))) (.sole 6 (.sole 10 (.take 11 (.take 12 (.take 13 (.take 14 (.take 15 (.take 17 (.take 18 (.sole 19 (.take 20 .done)))))))))))) ?_ (fun T120=>?_)
  ·rintro ax wx ⟨ga,gb,gc,xa,ya,xb,yb,rfl,hA,hB,hC,hD,hG⟩
   have HA:=zh hA;have HBB:=zh hB;have HC:=zh hC;have HB0:=zh hD;have HG:=zh hG
   clear hA hB hC hD hG
   rw [ha0]
   (simp only [setA,alLA,alLB,alLC,List.cons_append,List.nil_append,List.append_nil,List.foldl_cons,List.foldl_nil,List.setIfInBounds_toArray,List.set_cons_zero,List.set_cons_succ])
   refine plan_two ?_ ?_
   ·refine plan_slice 41 118 1 _ (ndRow 1 (.slice (some ⟨ga,0,none⟩) 1 1)) zr zr zr Tryz.underlying41 (by first | exact builtNd 1 _ _ _ | (simp [Act.eval];exact builtNd 1 _ _ _)) (HB0.out.alloc HB0.out.size _) ?_
    (simp only [Mem.zp,Mem.pb,Mem.pc])
    have hq:Below wx.heap.size wx (wx.alloc (.cells (ndRow 1 (.slice (some ⟨ga,0,none⟩) 1 1)) 118)):=(Below.refl _ _).alloc (Nat.le_refl _) (.cells (ndRow 1 (.slice (some ⟨ga,0,none⟩) 1 1)) 118)
    have hsr:SlRf wx (.slice (some ⟨ga,0,none⟩) 1 1) [r16]:=slrf_one (r:=r16) HA.out
    exact T220 _ _ ⟨wx.heap.size,gb,gc,_,_,xb,yb,by (rw [ha0];rfl),slnd_one (at_new wx (ndRow 1 (.slice (some ⟨ga,0,none⟩) 1 1)) 118) (hsr.below hq),HBB.out.below hq,HC.out.below hq,HB0.out.alloc HB0.out.size _,HG.out⟩
   ·refine plan_alloc _ (refC zref) zr zr zr AL.out (HB0.out.alloc HB0.out.size _) ?_
    (simp only [Mem.zp,Mem.pb,Mem.pc])
    have hq:Below wx.heap.size wx (wx.alloc (.cells (refC zref) 38)):=(Below.refl _ _).alloc (Nat.le_refl _) (.cells (refC zref) 38)
    exact T121 _ _ ⟨ga,gb,wx.heap.size,xa,ya,xb,yb,by (rw [ha0];rfl),HA.out.below hq,HBB.out.below hq,at_new wx (refC zref) 38,HB0.out.alloc HB0.out.size _,fun _=>HB0.out.size⟩
  refine plan_lem (J16 a0 w2 1 1 1) (.two 6 9 (.sole 9 (.sole 10 (.take 11 (.take 12 (.take 13 (.take 14 (.take 15 (.take 17 (.take 18 (.sole 19 (.take 20 .done))))))))))) (.sole 6 (.sole 10 (.take 11 (.take 12 (.take 13 (.take 14 (.take 15 (.take 17 (.take 18 (.sole 19 (.take 20 .done)))))))))))) ?_ (fun T111=>?_)
  ·rintro ax wx ⟨ga,gb,gc,xa,ya,xb,yb,rfl,hA,hB,hC,hD,hG⟩
   have HA:=zh hA;have HBB:=zh hB;have HC:=zh hC;have HB0:=zh hD;have HG:=zh hG
   clear hA hB hC hD hG
   rw [ha0]
   (simp only [setA,alLA,alLB,alLC,List.cons_append,List.nil_append,List.foldl_cons,List.foldl_nil,List.setIfInBounds_toArray,List.set_cons_zero,List.set_cons_succ])
   refine plan_two ?_ ?_
   ·refine plan_slice 41 118 1 _ (ndRow 1 (.slice (some ⟨ga,0,none⟩) 1 1)) zr zr zr Tryz.underlying41 (by first | exact builtNd 1 _ _ _ | (simp [Act.eval];exact builtNd 1 _ _ _)) (HB0.out.alloc HB0.out.size _) ?_
    (simp only [Mem.zp,Mem.pb,Mem.pc])
    have hq:Below wx.heap.size wx (wx.alloc (.cells (ndRow 1 (.slice (some ⟨ga,0,none⟩) 1 1)) 118)):=(Below.refl _ _).alloc (Nat.le_refl _) (.cells (ndRow 1 (.slice (some ⟨ga,0,none⟩) 1 1)) 118)
    have hsr:SlRf wx (.slice (some ⟨ga,0,none⟩) 1 1) [r16]:=slrf_one (r:=r16) HA.out
    exact T211 _ _ ⟨wx.heap.size,gb,gc,_,_,xb,yb,by (rw [ha0];rfl),slnd_one (at_new wx (ndRow 1 (.slice (some ⟨ga,0,none⟩) 1 1)) 118) (hsr.below hq),HBB.out.below hq,HC.out.below hq,HB0.out.alloc HB0.out.size _,HG.out⟩
   ·refine plan_slice 46 55 1 _ (chRow 0 (.slice (some ⟨gb,0,none⟩) 256 256)) zr zr zr Tryz.underlying46 (by first | exact builtCh16 0 _ _ _ | (simp [Act.eval];exact builtCh16 0 _ _ _)) (HB0.out.alloc HB0.out.size _) ?_
    (simp only [Mem.zp,Mem.pb,Mem.pc])
    have hq:Below wx.heap.size wx (wx.alloc (.cells (chRow 0 (.slice (some ⟨gb,0,none⟩) 256 256)) 55)):=(Below.refl _ _).alloc (Nat.le_refl _) (.cells (chRow 0 (.slice (some ⟨gb,0,none⟩) 256 256)) 55)
    have hsl:Sl wx (.slice (some ⟨gb,0,none⟩) 256 256) z256:=HBB.out
    exact T121 _ _ ⟨ga,wx.heap.size,gc,xa,ya,_,_,by (rw [ha0];rfl),HA.out.below hq,slch_one (at_new wx (chRow 0 (.slice (some ⟨gb,0,none⟩) 256 256)) 55) (hsl.below hq),HC.out.below hq,HB0.out.alloc HB0.out.size _,HG.out⟩
  refine plan_lem (J16 a0 w2 0 2 1) (.sole 4 (.take 5 (.sole 6 (.sole 10 (.take 11 (.take 12 (.take 13 (.take 14 (.take 15 (.take 17 (.take 18 (.sole 19 (.take 20 .done))))))))))))) ?_ (fun T021=>?_)
  ·rintro ax wx ⟨ga,gb,gc,xa,ya,xb,yb,rfl,hA,hB,hC,hD,hG⟩
   have HA:=zh hA;have HBB:=zh hB;have HC:=zh hC;have HB0:=zh hD;have HG:=zh hG
   clear hA hB hC hD hG
   rw [ha0]
   (simp only [setA,alLA,alLB,alLC,List.cons_append,List.nil_append,List.foldl_cons,List.foldl_nil,List.setIfInBounds_toArray,List.set_cons_zero,List.set_cons_succ])
   refine plan_slice 27 38 1 _ (refC r16) zr zr zr Tryz.underlying27 (by first | exact built_rp r16 r16_wf | (simp [Act.eval];exact built_rp r16 r16_wf)) (HB0.out.alloc HB0.out.size _) ?_
   (simp only [Mem.zp,Mem.pb,Mem.pc])
   refine plan_build 118 _ #[(0,.int .i64 1),(1,.slice (some ⟨wx.heap.size,0,none⟩) 1 1)] (.agg (ndRow 1 (.slice (some ⟨wx.heap.size,0,none⟩) 1 1))) zr zr zr (by first | rfl | simp [Act.eval]) (fun wy=>buildNd 1 _ _ _ wy) ?_
   (simp only [Mem.zp,Mem.pb,Mem.pc])
   have hq:Below wx.heap.size wx (wx.alloc (.cells (refC r16) 38)):=(Below.refl _ _).alloc (Nat.le_refl _) (.cells (refC r16) 38)
   exact T121 _ _ ⟨wx.heap.size,gb,gc,xa,ya,xb,yb,by (rw [ha0];rfl),at_new wx (refC r16) 38,HBB.out.below hq,HC.out.below hq,HB0.out.alloc HB0.out.size _,HG.out⟩
  refine plan_lem (J16 a0 w2 2 0 0) (.two 7 16 (.take 8 (.two 9 16 (.two 10 16 (.take 11 (.take 12 (.take 13 (.take 14 (.take 15 (.sole 16 (.take 17 (.take 18 (.sole 19 (.take 20 .done)))))))))) (.sole 10 (.take 11 (.take 12 (.take 13 (.take 14 (.take 15 (.take 17 (.take 18 (.sole 19 (.take 20 .done))))))))))) (.sole 9 (.sole 10 (.take 11 (.take 12 (.take 13 (.take 14 (.take 15 (.take 17 (.take 18 (.sole 19 (.take 20 .done))))))))))))) (.sole 7 (.take 8 (.sole 9 (.sole 10 (.take 11 (.take 12 (.take 13 (.take 14 (.take 15 (.take 17 (.take 18 (.sole 19 (.take 20 .done)))))))))))))) ?_ (fun T200=>?_)
  ·rintro ax wx ⟨ga,gb,gc,xa,ya,xb,yb,rfl,hA,hB,hC,hD,hG⟩
   have HA:=zh hA;have HBB:=zh hB;have HC:=zh hC;have HB0:=zh hD;have HG:=zh hG
   clear hA hB hC hD hG
   rw [ha0]
   (simp only [setA,alLA,alLB,alLC,List.append_nil,List.foldl_cons,List.foldl_nil,List.setIfInBounds_toArray,List.set_cons_zero,List.set_cons_succ])
   refine plan_two ?_ ?_
   ·refine plan_make _ _ 31 zr zr zr wx.heap.size 5 i8 (.int .u8 0) 1 Tryz.underlying31 I8.out Z8.out S8.out .i64 .i64 256 zr zr (by rw [B8'.out];omega) (by simp [maxLen]) (Nat.le_refl _) ?_
    intro wy ho hg
    have hq:Below wx.heap.size wx wy:=(Below.refl _ _).grown hg (Nat.le_refl _) (fun _ h=>by cases h)
    have hat:At wy wx.heap.size (u8s z256).toArray 5:=by have h:=own_full ho;rw [made_zeros] at h;exact h
    refine ⟨HB0.out.trans (hq.mono HB0.out.size),?_⟩
    (simp only [Mem.zp,Mem.pb,Mem.pc])
    refine plan_build 55 _ #[(1,.slice (some ⟨wx.heap.size,0,none⟩) 256 256)] (.agg (chRow 0 (.slice (some ⟨wx.heap.size,0,none⟩) 256 256))) zr zr zr (by first | rfl | simp [Act.eval]) (fun wy=>built_ch16 wy _ _ _) ?_
    (simp only [Mem.zp,Mem.pb,Mem.pc])
    exact T210 _ _ ⟨ga,wx.heap.size,gc,xa,ya,xb,yb,by (rw [ha0];rfl),HA.out.below hq,at_sl hat (by decide),HC.out.below hq,HB0.out.trans (hq.mono HB0.out.size),HG.out⟩
   ·refine plan_alloc _ (refC zref) zr zr zr AL.out (HB0.out.alloc HB0.out.size _) ?_
    (simp only [Mem.zp,Mem.pb,Mem.pc])
    have hq:Below wx.heap.size wx (wx.alloc (.cells (refC zref) 38)):=(Below.refl _ _).alloc (Nat.le_refl _) (.cells (refC zref) 38)
    exact T201 _ _ ⟨ga,gb,wx.heap.size,xa,ya,xb,yb,by (rw [ha0];rfl),HA.out.below hq,HBB.out.below hq,at_new wx (refC zref) 38,HB0.out.alloc HB0.out.size _,fun _=>HB0.out.size⟩
  refine plan_lem (J16 a0 w2 1 1 0) (.three 6 9 16 (.two 9 16 (.two 10 16 (.take 11 (.take 12 (.take 13 (.take 14 (.take 15 (.sole 16 (.take 17 (.take 18 (.sole 19 (.take 20 .done)))))))))) (.sole 10 (.take 11 (.take 12 (.take 13 (.take 14 (.take 15 (.take 17 (.take 18 (.sole 19 (.take 20 .done))))))))))) (.sole 9 (.sole 10 (.take 11 (.take 12 (.take 13 (.take 14 (.take 15 (.take 17 (.take 18 (.sole 19 (.take 20 .done)))))))))))) (.two 6 16 (.two 10 16 (.take 11 (.take 12 (.take 13 (.take 14 (.take 15 (.sole 16 (.take 17 (.take 18 (.sole 19 (.take 20 .done)))))))))) (.sole 10 (.take 11 (.take 12 (.take 13 (.take 14 (.take 15 (.take 17 (.take 18 (.sole 19 (.take 20 .done))))))))))) (.sole 6 (.sole 10 (.take 11 (.take 12 (.take 13 (.take 14 (.take 15 (.take 17 (.take 18 (.sole 19 (.take 20 .done)))))))))))) (.two 6 9 (.sole 9 (.sole 10 (.take 11 (.take 12 (.take 13 (.take 14 (.take 15 (.take 17 (.take 18 (.sole 19 (.take 20 .done))))))))))) (.sole 6 (.sole 10 (.take 11 (.take 12 (.take 13 (.take 14 (.take 15 (.take 17 (.take 18 (.sole 19 (.take 20 .done))))))))))))) ?_ (fun T110=>?_)
  ·rintro ax wx ⟨ga,gb,gc,xa,ya,xb,yb,rfl,hA,hB,hC,hD,hG⟩
   have HA:=zh hA;have HBB:=zh hB;have HC:=zh hC;have HB0:=zh hD;have HG:=zh hG
   clear hA hB hC hD hG
   rw [ha0]
   (simp only [setA,alLA,alLB,alLC,List.cons_append,List.nil_append,List.append_nil,List.foldl_cons,List.foldl_nil,List.setIfInBounds_toArray,List.set_cons_zero,List.set_cons_succ])
   refine plan_three ?_ ?_ ?_
   ·refine plan_slice 41 118 1 _ (ndRow 1 (.slice (some ⟨ga,0,none⟩) 1 1)) zr zr zr Tryz.underlying41 (by first | exact builtNd 1 _ _ _ | (simp [Act.eval];exact builtNd 1 _ _ _)) (HB0.out.alloc HB0.out.size _) ?_
    (simp only [Mem.zp,Mem.pb,Mem.pc])
    have hq:Below wx.heap.size wx (wx.alloc (.cells (ndRow 1 (.slice (some ⟨ga,0,none⟩) 1 1)) 118)):=(Below.refl _ _).alloc (Nat.le_refl _) (.cells (ndRow 1 (.slice (some ⟨ga,0,none⟩) 1 1)) 118)
    have hsr:SlRf wx (.slice (some ⟨ga,0,none⟩) 1 1) [r16]:=slrf_one (r:=r16) HA.out
    exact T210 _ _ ⟨wx.heap.size,gb,gc,_,_,xb,yb,by (rw [ha0];rfl),slnd_one (at_new wx (ndRow 1 (.slice (some ⟨ga,0,none⟩) 1 1)) 118) (hsr.below hq),HBB.out.below hq,HC.out.below hq,HB0.out.alloc HB0.out.size _,HG.out⟩
   ·refine plan_slice 46 55 1 _ (chRow 0 (.slice (some ⟨gb,0,none⟩) 256 256)) zr zr zr Tryz.underlying46 (by first | exact builtCh16 0 _ _ _ | (simp [Act.eval];exact builtCh16 0 _ _ _)) (HB0.out.alloc HB0.out.size _) ?_
    (simp only [Mem.zp,Mem.pb,Mem.pc])
    have hq:Below wx.heap.size wx (wx.alloc (.cells (chRow 0 (.slice (some ⟨gb,0,none⟩) 256 256)) 55)):=(Below.refl _ _).alloc (Nat.le_refl _) (.cells (chRow 0 (.slice (some ⟨gb,0,none⟩) 256 256)) 55)
    have hsl:Sl wx (.slice (some ⟨gb,0,none⟩) 256 256) z256:=HBB.out
    exact T120 _ _ ⟨ga,wx.heap.size,gc,xa,ya,_,_,by (rw [ha0];rfl),HA.out.below hq,slch_one (at_new wx (chRow 0 (.slice (some ⟨gb,0,none⟩) 256 256)) 55) (hsl.below hq),HC.out.below hq,HB0.out.alloc HB0.out.size _,HG.out⟩
   ·refine plan_alloc _ (refC zref) zr zr zr AL.out (HB0.out.alloc HB0.out.size _) ?_
    (simp only [Mem.zp,Mem.pb,Mem.pc])
    have hq:Below wx.heap.size wx (wx.alloc (.cells (refC zref) 38)):=(Below.refl _ _).alloc (Nat.le_refl _) (.cells (refC zref) 38)
    exact T111 _ _ ⟨ga,gb,wx.heap.size,xa,ya,xb,yb,by (rw [ha0];rfl),HA.out.below hq,HBB.out.below hq,at_new wx (refC zref) 38,HB0.out.alloc HB0.out.size _,fun _=>HB0.out.size⟩
  refine plan_lem (J16 a0 w2 1 0 1) (.two 6 7 (.sole 7 (.take 8 (.sole 9 (.sole 10 (.take 11 (.take 12 (.take 13 (.take 14 (.take 15 (.take 17 (.take 18 (.sole 19 (.take 20 .done))))))))))))) (.take 8 (.two 6 9 (.sole 9 (.sole 10 (.take 11 (.take 12 (.take 13 (.take 14 (.take 15 (.take 17 (.take 18 (.sole 19 (.take 20 .done))))))))))) (.sole 6 (.sole 10 (.take 11 (.take 12 (.take 13 (.take 14 (.take 15 (.take 17 (.take 18 (.sole 19 (.take 20 .done)))))))))))))) ?_ (fun T101=>?_)
  ·rintro ax wx ⟨ga,gb,gc,xa,ya,xb,yb,rfl,hA,hB,hC,hD,hG⟩
   have HA:=zh hA;have HBB:=zh hB;have HC:=zh hC;have HB0:=zh hD;have HG:=zh hG
   clear hA hB hC hD hG
   rw [ha0]
   (simp only [setA,alLA,alLB,alLC,List.cons_append,List.nil_append,List.append_nil,List.foldl_cons,List.foldl_nil,List.setIfInBounds_toArray,List.set_cons_zero,List.set_cons_succ])
   refine plan_two ?_ ?_
   ·refine plan_slice 41 118 1 _ (ndRow 1 (.slice (some ⟨ga,0,none⟩) 1 1)) zr zr zr Tryz.underlying41 (by first | exact builtNd 1 _ _ _ | (simp [Act.eval];exact builtNd 1 _ _ _)) (HB0.out.alloc HB0.out.size _) ?_
    (simp only [Mem.zp,Mem.pb,Mem.pc])
    have hq:Below wx.heap.size wx (wx.alloc (.cells (ndRow 1 (.slice (some ⟨ga,0,none⟩) 1 1)) 118)):=(Below.refl _ _).alloc (Nat.le_refl _) (.cells (ndRow 1 (.slice (some ⟨ga,0,none⟩) 1 1)) 118)
    have hsr:SlRf wx (.slice (some ⟨ga,0,none⟩) 1 1) [r16]:=slrf_one (r:=r16) HA.out
    exact T201 _ _ ⟨wx.heap.size,gb,gc,_,_,xb,yb,by (rw [ha0];rfl),slnd_one (at_new wx (ndRow 1 (.slice (some ⟨ga,0,none⟩) 1 1)) 118) (hsr.below hq),HBB.out.below hq,HC.out.below hq,HB0.out.alloc HB0.out.size _,HG.out⟩
   ·refine plan_make _ _ 31 zr zr zr wx.heap.size 5 i8 (.int .u8 0) 1 Tryz.underlying31 I8.out Z8.out S8.out .i64 .i64 256 zr zr (by rw [B8'.out];omega) (by simp [maxLen]) (Nat.le_refl _) ?_
    intro wy ho hg
    have hq:Below wx.heap.size wx wy:=(Below.refl _ _).grown hg (Nat.le_refl _) (fun _ h=>by cases h)
    have hat:At wy wx.heap.size (u8s z256).toArray 5:=by have h:=own_full ho;rw [made_zeros] at h;exact h
    refine ⟨HB0.out.trans (hq.mono HB0.out.size),?_⟩
    (simp only [Mem.zp,Mem.pb,Mem.pc])
    refine plan_build 55 _ #[(1,.slice (some ⟨wx.heap.size,0,none⟩) 256 256)] (.agg (chRow 0 (.slice (some ⟨wx.heap.size,0,none⟩) 256 256))) zr zr zr (by first | rfl | simp [Act.eval]) (fun wy=>built_ch16 wy _ _ _) ?_
    (simp only [Mem.zp,Mem.pb,Mem.pc])
    exact T111 _ _ ⟨ga,wx.heap.size,gc,xa,ya,xb,yb,by (rw [ha0];rfl),HA.out.below hq,at_sl hat (by decide),HC.out.below hq,HB0.out.trans (hq.mono HB0.out.size),HG.out⟩
  refine plan_lem (J16 a0 w2 0 2 0) (.two 4 16 (.take 5 (.two 6 16 (.two 10 16 (.take 11 (.take 12 (.take 13 (.take 14 (.take 15 (.sole 16 (.take 17 (.take 18 (.sole 19 (.take 20 .done)))))))))) (.sole 10 (.take 11 (.take 12 (.take 13 (.take 14 (.take 15 (.take 17 (.take 18 (.sole 19 (.take 20 .done))))))))))) (.sole 6 (.sole 10 (.take 11 (.take 12 (.take 13 (.take 14 (.take 15 (.take 17 (.take 18 (.sole 19 (.take 20 .done))))))))))))) (.sole 4 (.take 5 (.sole 6 (.sole 10 (.take 11 (.take 12 (.take 13 (.take 14 (.take 15 (.take 17 (.take 18 (.sole 19 (.take 20 .done)))))))))))))) ?_ (fun T020=>?_)
  ·rintro ax wx ⟨ga,gb,gc,xa,ya,xb,yb,rfl,hA,hB,hC,hD,hG⟩
   have HA:=zh hA;have HBB:=zh hB;have HC:=zh hC;have HB0:=zh hD;have HG:=zh hG
   clear hA hB hC hD hG
   rw [ha0]
   (simp only [setA,alLA,alLB,alLC,List.nil_append,List.append_nil,List.foldl_cons,List.foldl_nil,List.setIfInBounds_toArray,List.set_cons_zero,List.set_cons_succ])
   refine plan_two ?_ ?_
   ·refine plan_slice 27 38 1 _ (refC r16) zr zr zr Tryz.underlying27 (by first | exact built_rp r16 r16_wf | (simp [Act.eval];exact built_rp r16 r16_wf)) (HB0.out.alloc HB0.out.size _) ?_
    (simp only [Mem.zp,Mem.pb,Mem.pc])
    refine plan_build 118 _ #[(0,.int .i64 1),(1,.slice (some ⟨wx.heap.size,0,none⟩) 1 1)] (.agg (ndRow 1 (.slice (some ⟨wx.heap.size,0,none⟩) 1 1))) zr zr zr (by first | rfl | simp [Act.eval]) (fun wy=>buildNd 1 _ _ _ wy) ?_
    (simp only [Mem.zp,Mem.pb,Mem.pc])
    have hq:Below wx.heap.size wx (wx.alloc (.cells (refC r16) 38)):=(Below.refl _ _).alloc (Nat.le_refl _) (.cells (refC r16) 38)
    exact T120 _ _ ⟨wx.heap.size,gb,gc,xa,ya,xb,yb,by (rw [ha0];rfl),at_new wx (refC r16) 38,HBB.out.below hq,HC.out.below hq,HB0.out.alloc HB0.out.size _,HG.out⟩
   ·refine plan_alloc _ (refC zref) zr zr zr AL.out (HB0.out.alloc HB0.out.size _) ?_
    (simp only [Mem.zp,Mem.pb,Mem.pc])
    have hq:Below wx.heap.size wx (wx.alloc (.cells (refC zref) 38)):=(Below.refl _ _).alloc (Nat.le_refl _) (.cells (refC zref) 38)
    exact T021 _ _ ⟨ga,gb,wx.heap.size,xa,ya,xb,yb,by (rw [ha0];rfl),HA.out.below hq,HBB.out.below hq,at_new wx (refC zref) 38,HB0.out.alloc HB0.out.size _,fun _=>HB0.out.size⟩
  refine plan_lem (J16 a0 w2 0 1 1) (.two 4 9 (.take 5 (.two 6 9 (.sole 9 (.sole 10 (.take 11 (.take 12 (.take 13 (.take 14 (.take 15 (.take 17 (.take 18 (.sole 19 (.take 20 .done))))))))))) (.sole 6 (.sole 10 (.take 11 (.take 12 (.take 13 (.take 14 (.take 15 (.take 17 (.take 18 (.sole 19 (.take 20 .done))))))))))))) (.sole 4 (.take 5 (.sole 6 (.sole 10 (.take 11 (.take 12 (.take 13 (.take 14 (.take 15 (.take 17 (.take 18 (.sole 19 (.take 20 .done)))))))))))))) ?_ (fun T011=>?_)
  ·rintro ax wx ⟨ga,gb,gc,xa,ya,xb,yb,rfl,hA,hB,hC,hD,hG⟩
   have HA:=zh hA;have HBB:=zh hB;have HC:=zh hC;have HB0:=zh hD;have HG:=zh hG
   clear hA hB hC hD hG
   rw [ha0]
   (simp only [setA,alLA,alLB,alLC,List.cons_append,List.nil_append,List.foldl_cons,List.foldl_nil,List.setIfInBounds_toArray,List.set_cons_zero,List.set_cons_succ])
   refine plan_two ?_ ?_
   ·refine plan_slice 27 38 1 _ (refC r16) zr zr zr Tryz.underlying27 (by first | exact built_rp r16 r16_wf | (simp [Act.eval];exact built_rp r16 r16_wf)) (HB0.out.alloc HB0.out.size _) ?_
    (simp only [Mem.zp,Mem.pb,Mem.pc])
    refine plan_build 118 _ #[(0,.int .i64 1),(1,.slice (some ⟨wx.heap.size,0,none⟩) 1 1)] (.agg (ndRow 1 (.slice (some ⟨wx.heap.size,0,none⟩) 1 1))) zr zr zr (by first | rfl | simp [Act.eval]) (fun wy=>buildNd 1 _ _ _ wy) ?_
    (simp only [Mem.zp,Mem.pb,Mem.pc])
    have hq:Below wx.heap.size wx (wx.alloc (.cells (refC r16) 38)):=(Below.refl _ _).alloc (Nat.le_refl _) (.cells (refC r16) 38)
    exact T111 _ _ ⟨wx.heap.size,gb,gc,xa,ya,xb,yb,by (rw [ha0];rfl),at_new wx (refC r16) 38,HBB.out.below hq,HC.out.below hq,HB0.out.alloc HB0.out.size _,HG.out⟩
   ·refine plan_slice 46 55 1 _ (chRow 0 (.slice (some ⟨gb,0,none⟩) 256 256)) zr zr zr Tryz.underlying46 (by first | exact builtCh16 0 _ _ _ | (simp [Act.eval];exact builtCh16 0 _ _ _)) (HB0.out.alloc HB0.out.size _) ?_
    (simp only [Mem.zp,Mem.pb,Mem.pc])
    have hq:Below wx.heap.size wx (wx.alloc (.cells (chRow 0 (.slice (some ⟨gb,0,none⟩) 256 256)) 55)):=(Below.refl _ _).alloc (Nat.le_refl _) (.cells (chRow 0 (.slice (some ⟨gb,0,none⟩) 256 256)) 55)
    have hsl:Sl wx (.slice (some ⟨gb,0,none⟩) 256 256) z256:=HBB.out
    exact T021 _ _ ⟨ga,wx.heap.size,gc,xa,ya,_,_,by (rw [ha0];rfl),HA.out.below hq,slch_one (at_new wx (chRow 0 (.slice (some ⟨gb,0,none⟩) 256 256)) 55) (hsl.below hq),HC.out.below hq,HB0.out.alloc HB0.out.size _,HG.out⟩
  refine plan_lem (J16 a0 w2 1 0 0) (.three 6 7 16 (.two 7 16 (.take 8 (.two 9 16 (.two 10 16 (.take 11 (.take 12 (.take 13 (.take 14 (.take 15 (.sole 16 (.take 17 (.take 18 (.sole 19 (.take 20 .done)))))))))) (.sole 10 (.take 11 (.take 12 (.take 13 (.take 14 (.take 15 (.take 17 (.take 18 (.sole 19 (.take 20 .done))))))))))) (.sole 9 (.sole 10 (.take 11 (.take 12 (.take 13 (.take 14 (.take 15 (.take 17 (.take 18 (.sole 19 (.take 20 .done))))))))))))) (.sole 7 (.take 8 (.sole 9 (.sole 10 (.take 11 (.take 12 (.take 13 (.take 14 (.take 15 (.take 17 (.take 18 (.sole 19 (.take 20 .done)))))))))))))) (.take 8 (.three 6 9 16 (.two 9 16 (.two 10 16 (.take 11 (.take 12 (.take 13 (.take 14 (.take 15 (.sole 16 (.take 17 (.take 18 (.sole 19 (.take 20 .done)))))))))) (.sole 10 (.take 11 (.take 12 (.take 13 (.take 14 (.take 15 (.take 17 (.take 18 (.sole 19 (.take 20 .done))))))))))) (.sole 9 (.sole 10 (.take 11 (.take 12 (.take 13 (.take 14 (.take 15 (.take 17 (.take 18 (.sole 19 (.take 20 .done)))))))))))) (.two 6 16 (.two 10 16 (.take 11 (.take 12 (.take 13 (.take 14 (.take 15 (.sole 16 (.take 17 (.take 18 (.sole 19 (.take 20 .done)))))))))) (.sole 10 (.take 11 (.take 12 (.take 13 (.take 14 (.take 15 (.take 17 (.take 18 (.sole 19 (.take 20 .done))))))))))) (.sole 6 (.sole 10 (.take 11 (.take 12 (.take 13 (.take 14 (.take 15 (.take 17 (.take 18 (.sole 19 (.take 20 .done)))))))))))) (.two 6 9 (.sole 9 (.sole 10 (.take 11 (.take 12 (.take 13 (.take 14 (.take 15 (.take 17 (.take 18 (.sole 19 (.take 20 .done))))))))))) (.sole 6 (.sole 10 (.take 11 (.take 12 (.take 13 (.take 14 (.take 15 (.take 17 (.take 18 (.sole 19 (.take 20 .done)))))))))))))) (.two 6 7 (.sole 7 (.take 8 (.sole 9 (.sole 10 (.take 11 (.take 12 (.take 13 (.take 14 (.take 15 (.take 17 (.take 18 (.sole 19 (.take 20 .done))))))))))))) (.take 8 (.two 6 9 (.sole 9 (.sole 10 (.take 11 (.take 12 (.take 13 (.take 14 (.take 15 (.take 17 (.take 18 (.sole 19 (.take 20 .done))))))))))) (.sole 6 (.sole 10 (.take 11 (.take 12 (.take 13 (.take 14 (.take 15 (.take 17 (.take 18 (.sole 19 (.take 20 .done))))))))))))))) ?_ (fun T100=>?_)
  ·rintro ax wx ⟨ga,gb,gc,xa,ya,xb,yb,rfl,hA,hB,hC,hD,hG⟩
   have HA:=zh hA;have HBB:=zh hB;have HC:=zh hC;have HB0:=zh hD;have HG:=zh hG
   clear hA hB hC hD hG
   rw [ha0]
   (simp only [setA,alLA,alLB,alLC,List.append_nil,List.foldl_cons,List.foldl_nil,List.setIfInBounds_toArray,List.set_cons_zero,List.set_cons_succ])
   refine plan_three ?_ ?_ ?_
   ·refine plan_slice 41 118 1 _ (ndRow 1 (.slice (some ⟨ga,0,none⟩) 1 1)) zr zr zr Tryz.underlying41 (by first | exact builtNd 1 _ _ _ | (simp [Act.eval];exact builtNd 1 _ _ _)) (HB0.out.alloc HB0.out.size _) ?_
    (simp only [Mem.zp,Mem.pb,Mem.pc])
    have hq:Below wx.heap.size wx (wx.alloc (.cells (ndRow 1 (.slice (some ⟨ga,0,none⟩) 1 1)) 118)):=(Below.refl _ _).alloc (Nat.le_refl _) (.cells (ndRow 1 (.slice (some ⟨ga,0,none⟩) 1 1)) 118)
    have hsr:SlRf wx (.slice (some ⟨ga,0,none⟩) 1 1) [r16]:=slrf_one (r:=r16) HA.out
    exact T200 _ _ ⟨wx.heap.size,gb,gc,_,_,xb,yb,by (rw [ha0];rfl),slnd_one (at_new wx (ndRow 1 (.slice (some ⟨ga,0,none⟩) 1 1)) 118) (hsr.below hq),HBB.out.below hq,HC.out.below hq,HB0.out.alloc HB0.out.size _,HG.out⟩
   ·refine plan_make _ _ 31 zr zr zr wx.heap.size 5 i8 (.int .u8 0) 1 Tryz.underlying31 I8.out Z8.out S8.out .i64 .i64 256 zr zr (by rw [B8'.out];omega) (by simp [maxLen]) (Nat.le_refl _) ?_
    intro wy ho hg
    have hq:Below wx.heap.size wx wy:=(Below.refl _ _).grown hg (Nat.le_refl _) (fun _ h=>by cases h)
    have hat:At wy wx.heap.size (u8s z256).toArray 5:=by have h:=own_full ho;rw [made_zeros] at h;exact h
    refine ⟨HB0.out.trans (hq.mono HB0.out.size),?_⟩
    (simp only [Mem.zp,Mem.pb,Mem.pc])
    refine plan_build 55 _ #[(1,.slice (some ⟨wx.heap.size,0,none⟩) 256 256)] (.agg (chRow 0 (.slice (some ⟨wx.heap.size,0,none⟩) 256 256))) zr zr zr (by first | rfl | simp [Act.eval]) (fun wy=>built_ch16 wy _ _ _) ?_
    (simp only [Mem.zp,Mem.pb,Mem.pc])
    exact T110 _ _ ⟨ga,wx.heap.size,gc,xa,ya,xb,yb,by (rw [ha0];rfl),HA.out.below hq,at_sl hat (by decide),HC.out.below hq,HB0.out.trans (hq.mono HB0.out.size),HG.out⟩
   ·refine plan_alloc _ (refC zref) zr zr zr AL.out (HB0.out.alloc HB0.out.size _) ?_
    (simp only [Mem.zp,Mem.pb,Mem.pc])
    have hq:Below wx.heap.size wx (wx.alloc (.cells (refC zref) 38)):=(Below.refl _ _).alloc (Nat.le_refl _) (.cells (refC zref) 38)
    exact T101 _ _ ⟨ga,gb,wx.heap.size,xa,ya,xb,yb,by (rw [ha0];rfl),HA.out.below hq,HBB.out.below hq,at_new wx (refC zref) 38,HB0.out.alloc HB0.out.size _,fun _=>HB0.out.size⟩
  refine plan_lem (J16 a0 w2 0 1 0) (.three 4 9 16 (.take 5 (.three 6 9 16 (.two 9 16 (.two 10 16 (.take 11 (.take 12 (.take 13 (.take 14 (.take 15 (.sole 16 (.take 17 (.take 18 (.sole 19 (.take 20 .done)))))))))) (.sole 10 (.take 11 (.take 12 (.take 13 (.take 14 (.take 15 (.take 17 (.take 18 (.sole 19 (.take 20 .done))))))))))) (.sole 9 (.sole 10 (.take 11 (.take 12 (.take 13 (.take 14 (.take 15 (.take 17 (.take 18 (.sole 19 (.take 20 .done)))))))))))) (.two 6 16 (.two 10 16 (.take 11 (.take 12 (.take 13 (.take 14 (.take 15 (.sole 16 (.take 17 (.take 18 (.sole 19 (.take 20 .done)))))))))) (.sole 10 (.take 11 (.take 12 (.take 13 (.take 14 (.take 15 (.take 17 (.take 18 (.sole 19 (.take 20 .done))))))))))) (.sole 6 (.sole 10 (.take 11 (.take 12 (.take 13 (.take 14 (.take 15 (.take 17 (.take 18 (.sole 19 (.take 20 .done)))))))))))) (.two 6 9 (.sole 9 (.sole 10 (.take 11 (.take 12 (.take 13 (.take 14 (.take 15 (.take 17 (.take 18 (.sole 19 (.take 20 .done))))))))))) (.sole 6 (.sole 10 (.take 11 (.take 12 (.take 13 (.take 14 (.take 15 (.take 17 (.take 18 (.sole 19 (.take 20 .done)))))))))))))) (.two 4 16 (.take 5 (.two 6 16 (.two 10 16 (.take 11 (.take 12 (.take 13 (.take 14 (.take 15 (.sole 16 (.take 17 (.take 18 (.sole 19 (.take 20 .done)))))))))) (.sole 10 (.take 11 (.take 12 (.take 13 (.take 14 (.take 15 (.take 17 (.take 18 (.sole 19 (.take 20 .done))))))))))) (.sole 6 (.sole 10 (.take 11 (.take 12 (.take 13 (.take 14 (.take 15 (.take 17 (.take 18 (.sole 19 (.take 20 .done))))))))))))) (.sole 4 (.take 5 (.sole 6 (.sole 10 (.take 11 (.take 12 (.take 13 (.take 14 (.take 15 (.take 17 (.take 18 (.sole 19 (.take 20 .done)))))))))))))) (.two 4 9 (.take 5 (.two 6 9 (.sole 9 (.sole 10 (.take 11 (.take 12 (.take 13 (.take 14 (.take 15 (.take 17 (.take 18 (.sole 19 (.take 20 .done))))))))))) (.sole 6 (.sole 10 (.take 11 (.take 12 (.take 13 (.take 14 (.take 15 (.take 17 (.take 18 (.sole 19 (.take 20 .done))))))))))))) (.sole 4 (.take 5 (.sole 6 (.sole 10 (.take 11 (.take 12 (.take 13 (.take 14 (.take 15 (.take 17 (.take 18 (.sole 19 (.take 20 .done))))))))))))))) ?_ (fun T010=>?_)
  ·rintro ax wx ⟨ga,gb,gc,xa,ya,xb,yb,rfl,hA,hB,hC,hD,hG⟩
   have HA:=zh hA;have HBB:=zh hB;have HC:=zh hC;have HB0:=zh hD;have HG:=zh hG
   clear hA hB hC hD hG
   rw [ha0]
   (simp only [setA,alLA,alLB,alLC,List.nil_append,List.append_nil,List.foldl_cons,List.foldl_nil,List.setIfInBounds_toArray,List.set_cons_zero,List.set_cons_succ])
   refine plan_three ?_ ?_ ?_
   ·refine plan_slice 27 38 1 _ (refC r16) zr zr zr Tryz.underlying27 (by first | exact built_rp r16 r16_wf | (simp [Act.eval];exact built_rp r16 r16_wf)) (HB0.out.alloc HB0.out.size _) ?_
    (simp only [Mem.zp,Mem.pb,Mem.pc])
    refine plan_build 118 _ #[(0,.int .i64 1),(1,.slice (some ⟨wx.heap.size,0,none⟩) 1 1)] (.agg (ndRow 1 (.slice (some ⟨wx.heap.size,0,none⟩) 1 1))) zr zr zr (by first | rfl | simp [Act.eval]) (fun wy=>buildNd 1 _ _ _ wy) ?_
    (simp only [Mem.zp,Mem.pb,Mem.pc])
    have hq:Below wx.heap.size wx (wx.alloc (.cells (refC r16) 38)):=(Below.refl _ _).alloc (Nat.le_refl _) (.cells (refC r16) 38)
    exact T110 _ _ ⟨wx.heap.size,gb,gc,xa,ya,xb,yb,by (rw [ha0];rfl),at_new wx (refC r16) 38,HBB.out.below hq,HC.out.below hq,HB0.out.alloc HB0.out.size _,HG.out⟩
   ·refine plan_slice 46 55 1 _ (chRow 0 (.slice (some ⟨gb,0,none⟩) 256 256)) zr zr zr Tryz.underlying46 (by first | exact builtCh16 0 _ _ _ | (simp [Act.eval];exact builtCh16 0 _ _ _)) (HB0.out.alloc HB0.out.size _) ?_
    (simp only [Mem.zp,Mem.pb,Mem.pc])
    have hq:Below wx.heap.size wx (wx.alloc (.cells (chRow 0 (.slice (some ⟨gb,0,none⟩) 256 256)) 55)):=(Below.refl _ _).alloc (Nat.le_refl _) (.cells (chRow 0 (.slice (some ⟨gb,0,none⟩) 256 256)) 55)
    have hsl:Sl wx (.slice (some ⟨gb,0,none⟩) 256 256) z256:=HBB.out
    exact T020 _ _ ⟨ga,wx.heap.size,gc,xa,ya,_,_,by (rw [ha0];rfl),HA.out.below hq,slch_one (at_new wx (chRow 0 (.slice (some ⟨gb,0,none⟩) 256 256)) 55) (hsl.below hq),HC.out.below hq,HB0.out.alloc HB0.out.size _,HG.out⟩
   ·refine plan_alloc _ (refC zref) zr zr zr AL.out (HB0.out.alloc HB0.out.size _) ?_
    (simp only [Mem.zp,Mem.pb,Mem.pc])
    have hq:Below wx.heap.size wx (wx.alloc (.cells (refC zref) 38)):=(Below.refl _ _).alloc (Nat.le_refl _) (.cells (refC zref) 38)
    exact T011 _ _ ⟨ga,gb,wx.heap.size,xa,ya,xb,yb,by (rw [ha0];rfl),HA.out.below hq,HBB.out.below hq,at_new wx (refC zref) 38,HB0.out.alloc HB0.out.size _,fun _=>HB0.out.size⟩
  refine plan_lem (J16 a0 w2 0 0 1) (.two 4 7 (.take 5 (.two 6 7 (.sole 7 (.take 8 (.sole 9 (.sole 10 (.take 11 (.take 12 (.take 13 (.take 14 (.take 15 (.take 17 (.take 18 (.sole 19 (.take 20 .done))))))))))))) (.take 8 (.two 6 9 (.sole 9 (.sole 10 (.take 11 (.take 12 (.take 13 (.take 14 (.take 15 (.take 17 (.take 18 (.sole 19 (.take 20 .done))))))))))) (.sole 6 (.sole 10 (.take 11 (.take 12 (.take 13 (.take 14 (.take 15 (.take 17 (.take 18 (.sole 19 (.take 20 .done))))))))))))))) (.take 8 (.two 4 9 (.take 5 (.two 6 9 (.sole 9 (.sole 10 (.take 11 (.take 12 (.take 13 (.take 14 (.take 15 (.take 17 (.take 18 (.sole 19 (.take 20 .done))))))))))) (.sole 6 (.sole 10 (.take 11 (.take 12 (.take 13 (.take 14 (.take 15 (.take 17 (.take 18 (.sole 19 (.take 20 .done))))))))))))) (.sole 4 (.take 5 (.sole 6 (.sole 10 (.take 11 (.take 12 (.take 13 (.take 14 (.take 15 (.take 17 (.take 18 (.sole 19 (.take 20 .done)))))))))))))))) ?_ (fun T001=>?_)
  ·rintro ax wx ⟨ga,gb,gc,xa,ya,xb,yb,rfl,hA,hB,hC,hD,hG⟩
   have HA:=zh hA;have HBB:=zh hB;have HC:=zh hC;have HB0:=zh hD;have HG:=zh hG
   clear hA hB hC hD hG
   rw [ha0]
   (simp only [setA,alLA,alLB,alLC,List.nil_append,List.append_nil,List.foldl_cons,List.foldl_nil,List.setIfInBounds_toArray,List.set_cons_zero,List.set_cons_succ])
   refine plan_two ?_ ?_
   ·refine plan_slice 27 38 1 _ (refC r16) zr zr zr Tryz.underlying27 (by first | exact built_rp r16 r16_wf | (simp [Act.eval];exact built_rp r16 r16_wf)) (HB0.out.alloc HB0.out.size _) ?_
    (simp only [Mem.zp,Mem.pb,Mem.pc])
    refine plan_build 118 _ #[(0,.int .i64 1),(1,.slice (some ⟨wx.heap.size,0,none⟩) 1 1)] (.agg (ndRow 1 (.slice (some ⟨wx.heap.size,0,none⟩) 1 1))) zr zr zr (by first | rfl | simp [Act.eval]) (fun wy=>buildNd 1 _ _ _ wy) ?_
    (simp only [Mem.zp,Mem.pb,Mem.pc])
    have hq:Below wx.heap.size wx (wx.alloc (.cells (refC r16) 38)):=(Below.refl _ _).alloc (Nat.le_refl _) (.cells (refC r16) 38)
    exact T101 _ _ ⟨wx.heap.size,gb,gc,xa,ya,xb,yb,by (rw [ha0];rfl),at_new wx (refC r16) 38,HBB.out.below hq,HC.out.below hq,HB0.out.alloc HB0.out.size _,HG.out⟩
   ·refine plan_make _ _ 31 zr zr zr wx.heap.size 5 i8 (.int .u8 0) 1 Tryz.underlying31 I8.out Z8.out S8.out .i64 .i64 256 zr zr (by rw [B8'.out];omega) (by simp [maxLen]) (Nat.le_refl _) ?_
    intro wy ho hg
    have hq:Below wx.heap.size wx wy:=(Below.refl _ _).grown hg (Nat.le_refl _) (fun _ h=>by cases h)
    have hat:At wy wx.heap.size (u8s z256).toArray 5:=by have h:=own_full ho;rw [made_zeros] at h;exact h
    refine ⟨HB0.out.trans (hq.mono HB0.out.size),?_⟩
    (simp only [Mem.zp,Mem.pb,Mem.pc])
    refine plan_build 55 _ #[(1,.slice (some ⟨wx.heap.size,0,none⟩) 256 256)] (.agg (chRow 0 (.slice (some ⟨wx.heap.size,0,none⟩) 256 256))) zr zr zr (by first | rfl | simp [Act.eval]) (fun wy=>built_ch16 wy _ _ _) ?_
    (simp only [Mem.zp,Mem.pb,Mem.pc])
    exact T011 _ _ ⟨ga,wx.heap.size,gc,xa,ya,xb,yb,by (rw [ha0];rfl),HA.out.below hq,at_sl hat (by decide),HC.out.below hq,HB0.out.trans (hq.mono HB0.out.size),HG.out⟩
  have HA:Hid (alFA 0 0 w2.drew):=zh trivial;have HBB:Hid (alFB 0 0 w2.drew):=zh trivial;have HC:Hid (alFC 0 0 w2.drew):=zh trivial
  have HB0:Hid (Below w2.heap.size w2 w2.drew):=zh (Below.refl _ _).drew
  have HG:Hid (0 < 0→w2.heap.size≤0):=zh (fun h=>by omega)
  obtain ⟨wx,hwx⟩:∃ y,y=w2.drew:=⟨_,rfl⟩
  rw [←hwx] at HA HBB HC HB0 ⊢
  clear hwx
  skip
  rw [ha0]
  refine plan_three ?_ ?_ ?_
  ·refine plan_slice 27 38 1 _ (refC r16) zr zr zr Tryz.underlying27 (by first | exact built_rp r16 r16_wf | (simp [Act.eval];exact built_rp r16 r16_wf)) (HB0.out.alloc HB0.out.size _) ?_
   (simp only [Mem.zp,Mem.pb,Mem.pc])
   refine plan_build 118 _ #[(0,.int .i64 1),(1,.slice (some ⟨wx.heap.size,0,none⟩) 1 1)] (.agg (ndRow 1 (.slice (some ⟨wx.heap.size,0,none⟩) 1 1))) zr zr zr (by first | rfl | simp [Act.eval]) (fun wy=>buildNd 1 _ _ _ wy) ?_
   (simp only [Mem.zp,Mem.pb,Mem.pc])
   have hq:Below wx.heap.size wx (wx.alloc (.cells (refC r16) 38)):=(Below.refl _ _).alloc (Nat.le_refl _) (.cells (refC r16) 38)
   exact T100 _ _ ⟨wx.heap.size,0,0,undef,undef,undef,undef,by (rw [ha0];rfl),at_new wx (refC r16) 38,HBB.out.below hq,HC.out.below hq,HB0.out.alloc HB0.out.size _,HG.out⟩
  ·refine plan_make _ _ 31 zr zr zr wx.heap.size 5 i8 (.int .u8 0) 1 Tryz.underlying31 I8.out Z8.out S8.out .i64 .i64 256 zr zr (by rw [B8'.out];omega) (by simp [maxLen]) (Nat.le_refl _) ?_
   intro wy ho hg
   have hq:Below wx.heap.size wx wy:=(Below.refl _ _).grown hg (Nat.le_refl _) (fun _ h=>by cases h)
   have hat:At wy wx.heap.size (u8s z256).toArray 5:=by have h:=own_full ho;rw [made_zeros] at h;exact h
   refine ⟨HB0.out.trans (hq.mono HB0.out.size),?_⟩
   (simp only [Mem.zp,Mem.pb,Mem.pc])
   refine plan_build 55 _ #[(1,.slice (some ⟨wx.heap.size,0,none⟩) 256 256)] (.agg (chRow 0 (.slice (some ⟨wx.heap.size,0,none⟩) 256 256))) zr zr zr (by first | rfl | simp [Act.eval]) (fun wy=>built_ch16 wy _ _ _) ?_
   (simp only [Mem.zp,Mem.pb,Mem.pc])
   exact T010 _ _ ⟨0,wx.heap.size,0,undef,undef,undef,undef,by (rw [ha0];rfl),HA.out.below hq,at_sl hat (by decide),HC.out.below hq,HB0.out.trans (hq.mono HB0.out.size),HG.out⟩
  ·refine plan_alloc _ (refC zref) zr zr zr AL.out (HB0.out.alloc HB0.out.size _) ?_
   (simp only [Mem.zp,Mem.pb,Mem.pc])
   have hq:Below wx.heap.size wx (wx.alloc (.cells (refC zref) 38)):=(Below.refl _ _).alloc (Nat.le_refl _) (.cells (refC zref) 38)
   exact T001 _ _ ⟨0,0,wx.heap.size,undef,undef,undef,undef,by (rw [ha0];rfl),HA.out.below hq,HBB.out.below hq,at_new wx (refC zref) 38,HB0.out.alloc HB0.out.size _,fun _=>HB0.out.size⟩
 case rest=>
  obtain ⟨vp,g,an,cn,rfl,rfl,rfl,rfl,hg,hp,hb⟩:=hcut
  obtain ⟨ap,cp,rfl⟩:=hp.hd
  obtain ⟨b0,o0,_,rfl,_,c0,_,_⟩:=lput_at hp (j:=0) (by show 0 < 2;decide)
  obtain ⟨b1,o1,_,e1,_,c1,_,_⟩:=lput_at hp (j:=1) (by show 1 < 2;decide)
  injection e1 with e1
  injection e1 with e1 e2 _
  subst e1 e2
  have c0:wc.cell? ⟨b0,o0,none⟩=some (.int .i64 2):=by have h:=c0;rw [Nat.zero_mul,Nat.add_zero] at h;exact h
  have c1:wc.cell? ⟨b0,o0+2,none⟩=some (.int .i64 5):=c1
  have k0:wc.cell? ⟨g,0,none⟩=some (.int .i64 1):=(hg.cell 0).trans R0.out
  have k1:wc.cell? ⟨g,1,none⟩=some (.int .u32 2):=(hg.cell 1).trans R1.out
  have A2:=zh (A1.out.below hb A1.out.lt);have B2:=zh (B1.out.trans (hb.mono B1.out.size));have GL:=zh hg.lt;have BL:=zh (block_lt_of_cell c0)
  clear hg hp hb
  go_wp2_with (first
   | (refine wpList_unguard zr ?_;refine wpList_load_all zr 26 _ zr bs zr _ Tryz.underlying26 zr C _ A2.out (by rw [CS.out];exact infoPS) ?_)
   | (refine wpList_unguard zr ?_;refine Go.Great.wpList_buildSliceTo zr 61 3 1 _ zr _ zr _ zr Tryz.underlying61 #[.int .i64 0] (by kernel_rfl) ?_))
  refine (NDD.out _ _ (slz_built _)).mono ?_
  rintro e' wy ⟨v',rfl,how,hby⟩
  obtain ⟨av,cv,rfl⟩:=(ownV_sli how).hd
  have D1:Hid (Below w.heap.size w wy):=zh (B2.out.trans ((((Below.refl _ _).alloc (Nat.le_refl _) _).trans (hby.mono (by simp))).mono B2.out.size))
  clear how hby
  go_wp2_with fail
  go_ret
  exact ⟨rfl,D1.out⟩
end Sha
end Go.Proofs.YtlhnegbjoncieaaGreatDoor
