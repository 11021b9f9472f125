/- My own texts, merged. -/
import Derived.Test.YtplmfmpbkjnbaaaGreatDoorBQ02
import Derived.Test.YtplmfmpbkjnbaaaGreatDoorBQ30
import Derived.Test.YtplmfmpbkjnbaaaGreatDoorBQ12
import Derived.Test.YtplmfmpbkjnbaaaGreatDoorBQ07
import Derived.Test.YtplmfmpbkjnbaaaGreatDoorBQ31
import Derived.Test.YtplmfmpbkjnbaaaGreatDoorBQ00
import Derived.Test.YtplmfmpbkjnbaaaGreatDoorBQ08
import Derived.Great.Walk
import Derived.OwnWalk
import Derived.Deep.DeepCutAuto
import Derived.Test.YtplmfmpbkjnbaaaGreatDoorBQ13
import Derived.Lib.SlBytesConst
import Derived.Test.YtplmfmpbkjnbaaaGreatDoorBQ19
import Derived.Test.YtplmfmpbkjnbaaaGreatDoorBQ04
import Derived.Test.YtplmfmpbkjnbaaaGreatDoorBQ11
import Derived.Test.YtplmfmpbkjnbaaaGreatDoorBQ05
import Derived.Test.YtplmfmpbkjnbaaaGreatDoorBQ20
set_option maxRecDepth 100000
set_option maxHeartbeats 4000000
namespace Go.Proofs.YtplmfmpbkjnbaaaGreatDoor
namespace Mem
open Go.RowKit
theorem OwnV.set {w:World} {B:Nat} {e:TypeId} {v:Value} {xs:List Value} (h:OwnV w B e v xs) (i:Nat) (u:Value) (hi:i < xs.length) :
 ∃ g cap C,v=.slice (some ⟨g,0,none⟩) xs.length cap∧B≤g∧At w g C e∧i < C.size∧∀ w',At w' g (C.setIfInBounds i u) e→OwnV w' B e v (xs.set i u):=by
 obtain ⟨_,h | ⟨g,cap,cur,rfl,hg,hh,hn,hc,hs,ht⟩⟩:=h
 ·obtain ⟨_,h0⟩:=h
  omega
 ·refine ⟨g,cap,cur,rfl,hg,hh,by rw [hs];omega,fun w' hw'=>⟨by simp,.inr ⟨g,cap,cur.setIfInBounds i u,by rw [List.length_set],hg,hw',by rw [List.length_set];exact hn,hc,by rw [Array.size_setIfInBounds];exact hs,?_⟩⟩⟩
  rw [List.length_set,Array.toList_setIfInBounds,List.take_set,ht]
end Mem
namespace Sha
open Go.RowKit Mem
structure RTInv (L:Lb8) (v:Value) (hs:Nat) (w wr:World):Prop where
 o:OwnB wr hs v L
 b:Below hs w wr
def ROEnd (w:World) (L:Lb8) (e:Ending) (w':World):Prop:=∃ v,e=.returned v∧OwnB w' w.heap.size v L∧Below w.heap.size w w'
theorem rturned_own (key nonce:Lb8) (n:BitVec 32) (l:Lb8) (v:Value) (lk:key.length=32) (ln:nonce.length=12) (hz:l.length≤1048576) (w:World) (hv:Sl w v l) :
 Calls Tryz.prog 134 #[.agg (u8s key).toArray,.agg (u8s nonce).toArray,.int .u32 (V n),v] w (ROEnd w (cturn l (cstream key nonce n l.length))):=by
 have hst:=fun wx=>rstream_good key nonce n l.length lk ln hz wx
 obtain ⟨s,hs⟩:∃ s,s=cstream key nonce n l.length:=⟨_,rfl⟩
 have ls:s.length=l.length:=by rw [hs];exact cstream_length _ _ _ _
 rw [←hs] at hst ⊢
 rw [cturn_joinB l s ls.symm]
 have hv0:=hv
 obtain ⟨a0,cap,rfl,_,_⟩:=hv
 have jl:=joinTo_length l s ls.symm
 have jz:=joinTo_zero l s
 have ja:=joinTo_all l s ls.symm
 have js:=fun j hj=>joinTo_set l s ls.symm j hj
 obtain ⟨m,hm⟩:∃ m,m=l.length:=⟨_,rfl⟩
 rw [←hm] at hst jl ja js ls hz hv0 ⊢
 have hmin:min (m:Int) 1048576=(m:Int):=by omega
 have hmle:(m:Int)≤1048576:=by omega
 have hmlt:¬ (1048576:Int) < (m:Int):=by omega
 obtain ⟨C,hC⟩:∃ C,C=(u8s key).toArray:=⟨_,rfl⟩
 obtain ⟨D,hD⟩:∃ D,D=(u8s nonce).toArray:=⟨_,rfl⟩
 have hCs:C.size=32:=by rw [hC];simp [u8s,lk]
 have hDs:D.size=12:=by rw [hD];simp [u8s,ln]
 rw [←hC,←hD] at hst
 rw [←hC,←hD]
 have aC:At ((w.alloc (.cells C 22)).alloc (.cells D 214)) w.heap.size C 22:=(at_new w C _).alloc _
 have aD:At ((w.alloc (.cells C 22)).alloc (.cells D 214)) (w.heap.size+1) D 214:=by
  have h:=at_new (w.alloc (.cells C 22)) D 214
  simpa using h
 have aB:Below w.heap.size w ((w.alloc (.cells C 22)).alloc (.cells D 214)):=((Below.refl _ _).alloc (Nat.le_refl _) _).alloc (by simp) _
 have ST:=zh hst;have CS:=zh hCs;have DS:=zh hDs;have AC:=zh aC;have AD:=zh aD;have AB:=zh aB;have HV:=zh hv0
 have JL:=zh jl;have JZ:=zh jz;have JA:=zh ja;have JS:=zh js;have LS:=zh ls;have HM:=zh hm
 clear hst hCs hDs aC aD aB hC hD lk ln hv0 jl jz ja js ls hm hs
 go_enter Tryz.func134,Tryz.ntmps134
 go_wp2_with (first
  | (refine wpList_load_all zr 22 _ zr w.heap.size zr _ Tryz.underlying22 zr C _ AC.out (by rw [CS.out];exact info32b) ?_)
  | (refine wpList_load_all zr 214 _ zr (w.heap.size+1) zr _ Tryz.underlying214 zr D _ AD.out (by rw [DS.out];exact info12) ?_))
 refine (ST.out _).mono ?_
 rintro e w4 ⟨vs,rfl,hs4,hb4⟩
 have B4:=zh (AB.out.trans (hb4.mono AB.out.size));have HV4:=zh (HV.out.below (AB.out.trans (hb4.mono AB.out.size)))
 have HS4:=hs4
 obtain ⟨a2,c2,rfl,_,_⟩:=hs4
 rw [LS.out] at HS4 ⊢
 have HS4':=zh HS4
 clear hb4 HS4 AC AD AB HV ST
 go_wp2_with (first | (at_builtin;refine wpList_append_bytes zr _ _ zr w4.heap.size (.slice none 0 0) (.slice a0 m cap) [] l zr (OwnB.nil _ _) zr HV4.out (by rw [List.length_nil,←HM.out];omega) (Nat.le_refl _) ?_;intro v5 w5 ho5 _ hb5;have O5:Hid (OwnB w5 w4.heap.size v5 (joinTo l s 0)):=(by rw [JZ.out];exact ho5);have B5:=zh hb5;clear ho5 hb5))
 have I5:Hid (RTInv (joinTo l s 0) v5 w4.heap.size w4 w5):=⟨O5.out,B5.out⟩
 obtain ⟨hs4,hhs⟩:∃ h,h=w4.heap.size:=⟨_,rfl⟩
 have HB4:Hid (w.heap.size≤hs4):=by rw [hhs];exact B4.out.size
 have HSZ:=zh hhs
 rw [←hhs] at I5
 clear O5 B5 hhs
 go_loopw [11] (fun i wr=>∃ j:Nat,j≤m∧i=.int .i64 j∧RTInv (joinTo l s j) v5 hs4 w4 wr) (fun i _=>m - (intOf i).toNat)
 case atStart=>exact ⟨0,by omega,rfl,I5.out⟩
 case round=>
  clear I5
  obtain ⟨j,hj,rfl,hI⟩:=hrel
  by_cases hlt:j < m
  ·obtain ⟨x,hxx⟩:∃ x,x=l.getD j 0:=⟨_,rfl⟩
   obtain ⟨y,hyy⟩:∃ y,y=s.getD j 0:=⟨_,rfl⟩
   have hv4:=HV4.out
   have hs5:=HS4'.out
   rw [HM.out] at hv4
   obtain ⟨b1,o1,hb1,cx⟩:=sl_at (i:=j) hv4 (by rw [←HM.out];exact hlt)
   rw [←LS.out] at hs5
   obtain ⟨b2,o2,hb2,cy⟩:=sl_at (i:=j) hs5 (by rw [LS.out];exact hlt)
   rw [hb1,hb2]
   rw [←hxx] at cx
   rw [←hyy] at cy
   have l1:b1 < hs4:=by rw [HSZ.out];exact block_lt_of_cell cx
   have l2:b2 < hs4:=by rw [HSZ.out];exact block_lt_of_cell cy
   have hset:(u8s (joinTo l s j)).set (0+j) (.int .u8 (B8 (x ^^^ y)))=u8s (joinTo l s (j+1)):=by
    rw [←JS.out j hlt,Nat.zero_add,←hxx,←hyy];simp [u8s,List.map_set];rfl
   obtain ⟨g,co,E,hv5,hg,hE,hEs,hnew⟩:=OwnV.set (ownB_V hI.o) (0+j) (.int .u8 (B8 (x ^^^ y))) (by rw [u8s_length,JL.out];omega)
   rw [hset] at hnew
   rw [u8s_length,JL.out] at hv5
   rw [hv5] at hnew ⊢
   have KK:=zh hE;have ES:=zh hEs;have NW:=zh hnew;have BB:=zh hI.b;have C1:=zh cx;have C2:=zh cy;have L1:=zh l1;have L2:=zh l2;have HG:=zh hg;have HV5:=zh hv5
   have hlt':(j:Int) < (m:Int):=by omega
   clear hI hE hEs hnew cx cy l1 l2 hg hset hxx hyy hv4 hs5 hb1 hb2 hv5
   go_wp2_with fail
   refine wp_region_plan_in (fun w'=>Below hs4 w4 w') ((.take 0 (.take 1 (.take 2 (.take 3 (.take 4 (.take 5 (.take 6 (.take 7 (.take 8 (.take 9 (.take 10 (.take 11 (.sole 12 .done)))))))))))))) (by kernel_rfl) (by kernel_rfl) (by kernel_rfl) BB.out.drew ?_
   iterate 4 ((first | refine Mem.pm1 ?_ | refine Mem.pm2 ?_ | refine Mem.pt ?_ | refine Mem.pf ?_);(simp only [Mem.zp,Mem.pb,Mem.pc]))
   refine plan_index 63 5 _ _ b1 o1 m cap j zr zr zr ze ze (by omega) Tryz.underlying63 (by kernel_rfl) ?_
   (simp only [Mem.zp,Mem.pb,Mem.pc])
   refine plan_cell 5 _ _ _ _ zr zr zr ze (fun w' hw'=>(hw'.cell (p:=⟨b1,o1+j,none⟩) L1.out).trans C1.out) Tryz.underlying5 zr ?_
   (simp only [Mem.zp,Mem.pb,Mem.pc])
   iterate 2 ((first | refine Mem.pm1 ?_ | refine Mem.pm2 ?_ | refine Mem.pt ?_ | refine Mem.pf ?_);(simp only [Mem.zp,Mem.pb,Mem.pc]))
   refine plan_index 63 5 _ _ b2 o2 m c2 j zr zr zr ze ze (by omega) Tryz.underlying63 (by kernel_rfl) ?_
   (simp only [Mem.zp,Mem.pb,Mem.pc])
   refine plan_cell 5 _ _ _ _ zr zr zr ze (fun w' hw'=>(hw'.cell (p:=⟨b2,o2+j,none⟩) L2.out).trans C2.out) Tryz.underlying5 zr ?_
   (simp only [Mem.zp,Mem.pb,Mem.pc])
   refine plan_bin _ _ _ _ _ _ _ _ zr zr zr ze ze (fun wx=>o_xorb _ _ _ _ _ _ wx) ?_
   (simp only [Mem.zp,Mem.pb,Mem.pc])
   refine plan_index 63 5 _ _ g 0 m co j zr zr zr ze ze (by omega) Tryz.underlying63 (by kernel_rfl) ?_
   (simp only [Mem.zp,Mem.pb,Mem.pc])
   refine plan_store_one 5 _ _ g (0+j) (.int .u8 (B8 (x ^^^ y))) E 5 zr zr zr zr ze ze zr infoB KK.out ES.out (BB.out.drew.setCell HG.out _) ?_
   refine plan_nil ?_
   have o7:OwnB (wr.drew.setCell ⟨g,0+j,none⟩ (.int .u8 (B8 (x ^^^ y)))) hs4 v5 (joinTo l s (j+1)):=by
    rw [HV5.out];exact ownV_B (NW.out _ (At.set (w:=wr.drew) KK.out _ _))
   have I7:Hid (RTInv (joinTo l s (j+1)) v5 hs4 w4 (wr.drew.setCell ⟨g,0+j,none⟩ (.int .u8 (B8 (x ^^^ y))))):=⟨o7,BB.out.drew.setCell HG.out _⟩
   clear o7
   generalize wr.drew.setCell ⟨g,0+j,none⟩ (.int .u8 (B8 (x ^^^ y)))=w7 at *
   go_wp2_with fail
   go_roundw
   case rel=>exact ⟨j+1,by omega,by go_num,by have h:=I7.out;rw [HV5.out] at h;exact h⟩
   case measure=>simp [intOf];omega
  ·have hjm:j=m:=by omega
   have hge:¬ (j:Int) < (m:Int):=by omega
   rw [hjm,JA.out] at hI
   have II:=zh hI
   clear hI hjm hlt hj
   go_wp2_with fail
   go_ret
   exact ⟨_,rfl,ownsRow_base II.out.o HB4.out,B4.out.trans (II.out.b.mono HB4.out)⟩
end Sha
end Go.Proofs.YtplmfmpbkjnbaaaGreatDoor
namespace Go.Proofs.YtplmfmpbkjnbaaaGreatDoor
namespace Sha
open Go.RowKit Mem
theorem conv_i64u (z:Int) (bb:BitVec 64) (hb:bb=BitVec.ofNat 64 z.toNat) (h0:0≤z) (h1:z≤9223372036854775807) (w:World):(convert 3 210 (.int .i64 z)).run Tryz.prog w=.ok (.int .u64 (bb.toNat:Int)) w:=by
 have e:(bb.toNat:Int)=z:=by rw [hb,BitVec.toNat_ofNat];omega
 rw [e]
 have h2:IntKind.u64.wrap z=z:=by rw [IntKind.wrap_u64];omega
 go_simp
def sealL (key:Lb8) (ep:BitVec 32) (block:Int) (page:Lb8):Lb8:=cturn page (cstream key (cnonce ep (BitVec.ofNat 64 block.toNat)) 0 page.length)
theorem sealL_length (key:Lb8) (ep:BitVec 32) (block:Int) (page:Lb8):(sealL key ep block page).length=page.length:=cturn_length _ _ (by rw [cstream_length];exact Nat.le_refl _)
def sealBad (block:Int) (page:Lb8):Bool:=decide (page.length≠256∨block < 0)
def sealR (key:Lb8) (ep:BitVec 32) (block:Int) (page:Lb8):Lb8 × Int:=if sealBad block page then ([],1) else (sealL key ep block page,0)
def hideR (key:Lb8) (ep:BitVec 32) (place block:Int) (page:Lb8):Lb8 × RefV × Int:=
 if sealBad block page || decide (place < 0∨1 < place) then ([],zref,1) else (sealL key ep block page,⟨place,ep,digestOf (sealL key ep block page)⟩,0)
theorem wf_dig (place:Int) (ep:BitVec 32) (l:Lb8) (h0:0≤place) (h1:place≤1):RefV.Wf ⟨place,ep,digestOf l⟩:=by
 have hd:=digestOf_length l
 generalize digestOf l=D at *
 exact ⟨by show _≤place;omega,by show place≤_;omega,hd⟩
theorem hideR_wf (key:Lb8) (ep:BitVec 32) (place block:Int) (page:Lb8):(hideR key ep place block page).2.1.Wf:=by
 unfold hideR
 split
 ·exact zref_wf
 ·rename_i h
  simp at h
  exact wf_dig place ep _ (by omega) (by omega)
theorem rseal_own (key:Lb8) (lk:key.length=32) (ep:BitVec 32) (block:Int) (hbk:block≤9223372036854775807) (page:Lb8) (v:Value) (w:World) (hv:Sl w v page) (hp:page.length≤1048576) :
 Calls Tryz.prog 105 #[.agg (u8s key).toArray,.int .u32 (V ep),.int .i64 block,v] w (SealOwn w (sealR key ep block page).1 (sealR key ep block page).2):=by
 obtain ⟨a0,c0,rfl⟩:=sl_inv hv
 obtain ⟨n,hn⟩:∃ n,n=page.length:=⟨_,rfl⟩
 have ha:Below w.heap.size w (w.alloc (.cells (u8s key).toArray 22)):=(Below.refl _ _).alloc (Nat.le_refl _) _
 by_cases h1:page.length=256
 ·by_cases h2:block < 0
  ·have e0:sealR key ep block page=([],1):=by simp [sealR,sealBad,h2]
   rw [e0,h1]
   have BA:=zh ha
   clear ha hv hn e0
   go_enter Tryz.func105,Tryz.ntmps105
   go_wp2_with fail
   go_ret2
   exact ⟨_,rfl,OwnB.nil _ _,BA.out⟩
  ·have e0:sealR key ep block page=(sealL key ep block page,0):=by simp [sealR,sealBad,h1,h2]
   rw [e0]
   obtain ⟨bb,hbb⟩:∃ bb,bb=BitVec.ofNat 64 block.toNat:=⟨_,rfl⟩
   have cv:=fun wx=>conv_i64u block bb hbb (by omega) hbk wx
   have non:=fun wx=>rnonce_any ep bb wx
   have rt:∀ wx,Sl wx (.slice a0 256 c0) page→Calls Tryz.prog 134 #[.agg (u8s key).toArray,.agg (ncOf ep bb),.int .u32 0,.slice a0 256 c0] wx (ROEnd wx (sealL key ep block page)):=fun wx h=>by
    have k:=rturned_own key (cnonce ep bb) 0 page _ lk (cnonce_length _ _) hp wx h
    unfold sealL
    rw [←hbb]
    exact k
   rw [h1] at hv ⊢
   obtain ⟨C,hC⟩:∃ C,C=(u8s key).toArray:=⟨_,rfl⟩
   have cs:C.size=32:=by rw [hC];simp [u8s_length,lk]
   rw [←hC] at rt ha ⊢
   have an:=at_new w C 22
   have h2':¬ block < 0:=h2
   obtain ⟨L,hL⟩:∃ L,L=sealL key ep block page:=⟨_,rfl⟩
   rw [←hL] at rt ⊢
   have CV:=zh cv;have NON:=zh non;have RT:=zh rt;have CS:=zh cs;have A1:=zh an;have BA:=zh ha;have S1:=zh (hv.below ha)
   clear cv non rt cs an ha hv hC hL hbb e0 h1 hn lk hp
   obtain ⟨nc,hnc⟩:∃ nc,nc=ncOf ep bb:=⟨_,rfl⟩
   rw [←hnc] at NON RT
   clear hnc
   go_enter Tryz.func105,Tryz.ntmps105
   go_wp2_with fail
   obtain ⟨b1,hb1⟩:∃ b1,b1=w.heap.size:=⟨_,rfl⟩
   rw [←hb1] at A1 ⊢
   clear hb1
   generalize w.alloc (.cells C 22)=w1 at *
   have B1:Hid (Below w1.heap.size w1 w1.drew):=zh (Below.refl _ _).drew
   refine wp_region_plan_in (fun x=>Below w1.heap.size w1 x) (.take 0 (.take 1 (.take 2 (.take 3 (.take 5 (.sole 4 (.sole 6 (.take 7 (.take 8 .done))))))))) (by kernel_rfl) (by kernel_rfl) (by kernel_rfl) B1.out ?_
   refine plan_row 22 _ b1 _ C 22 zr zr zr ze (fun w' hw'=>A1.out.below hw' A1.out.lt) Tryz.underlying22 zr (by rw [CS.out];exact infoDg) ?_
   (simp only [Mem.zp,Mem.pb,Mem.pc])
   iterate 2 ((first | refine Mem.pm1 ?_ | refine Mem.pm2 ?_ | refine Mem.pt ?_ | refine Mem.pf ?_);(simp only [Mem.zp,Mem.pb,Mem.pc]))
   refine plan_conv 3 210 _ (.int .i64 block) (.int .u64 (bb.toNat:Int)) zr zr zr ze (fun wx=>CV.out wx) ?_
   (simp only [Mem.zp,Mem.pb,Mem.pc])
   (first | refine Mem.pm1 ?_ | refine Mem.pm2 ?_ | refine Mem.pt ?_ | refine Mem.pf ?_)
   (simp only [Mem.zp,Mem.pb,Mem.pc])
   refine plan_call 135 _ _ _ (by kernel_rfl) zr zr zr (by first | exact Mem.ev_none _ | (simp only [List.map_toArray,List.map_cons,List.map_nil,Mem.ev_tmp,List.getD_cons_succ,List.getD_cons_zero] <;> rfl)) ?_
   refine (NON.out _).mono ?_
   rintro o2 w2 ⟨rfl,hb⟩
   have B2:Hid (Below w1.heap.size w1 w2):=zh (B1.out.trans (hb.mono B1.out.size))
   clear hb
   refine ⟨_,rfl,B2.out,?_⟩
   (simp only [Mem.zp,Mem.pb,Mem.pc])
   refine plan_call 134 _ _ _ (by kernel_rfl) zr zr zr (by first | exact Mem.ev_none _ | (simp only [List.map_toArray,List.map_cons,List.map_nil,Mem.ev_tmp,List.getD_cons_succ,List.getD_cons_zero] <;> rfl)) ?_
   refine (RT.out _ (S1.out.below B2.out)).mono ?_
   rintro o3 w3 ⟨v3,rfl,hs,hb⟩
   have B3:Hid (Below w1.heap.size w1 w3):=zh (B2.out.trans (hb.mono B2.out.size))
   have S3:=zh hs
   clear hs hb
   refine ⟨_,rfl,B3.out,?_⟩
   (simp only [Mem.zp,Mem.pb,Mem.pc])
   iterate 2 ((first | refine Mem.pm1 ?_ | refine Mem.pm2 ?_ | refine Mem.pt ?_ | refine Mem.pf ?_);(simp only [Mem.zp,Mem.pb,Mem.pc]))
   refine plan_nil ?_
   go_wp2_with fail
   go_ret2
   exact ⟨_,rfl,ownsRow_base S3.out (Nat.le_trans BA.out.size B2.out.size),BA.out.trans (B3.out.mono BA.out.size)⟩
 ·have h1':¬ (n:Int)=256:=by omega
  have e0:sealR key ep block page=([],1):=by simp [sealR,sealBad,h1]
  rw [e0,←hn]
  have BA:=zh ha
  clear ha hv hn e0 h1 hp
  go_enter Tryz.func105,Tryz.ntmps105
  go_wp2_with fail
  go_ret2
  exact ⟨_,rfl,OwnB.nil _ _,BA.out⟩
theorem rhide_own (key:Lb8) (lk:key.length=32) (ep:BitVec 32) (place block:Int) (hp0:-9223372036854775808≤place) (hp1:place≤9223372036854775807) (hbk:block≤9223372036854775807) (page:Lb8) (v:Value) (w:World) (hv:Sl w v page) (hp:page.length≤1048576) :
 Calls Tryz.prog 66 #[.agg (u8s key).toArray,.int .u32 (V ep),.int .i64 place,.int .i64 block,v] w (ThreeOwn w (hideR key ep place block page).1 (hideR key ep place block page).2.1 (hideR key ep place block page).2.2):=by
 have rs:=fun wx (h:Below w.heap.size w wx)=>rseal_own key lk ep block hbk page v wx (hv.below h) hp
 obtain ⟨C,hC⟩:∃ C,C=(u8s key).toArray:=⟨_,rfl⟩
 have cs:C.size=32:=by rw [hC];simp [u8s_length,lk]
 rw [←hC] at rs ⊢
 obtain ⟨Z,hZ⟩:∃ Z,Z=refC zref:=⟨_,rfl⟩
 have zs:Z.size=34:=by rw [hZ];exact refC_size zref_wf
 have zo:Z.all (·.oneCell')=true:=by rw [hZ];exact refC_one _
 have hx:∀ w,(zeroValue 25).run Tryz.prog w=.ok (.agg Z) w:=by rw [hZ];exact zeroRfR
 have bn:∀ w,(Instr.build 25 #[]).run Tryz.prog w=.ok (.agg Z) w:=by rw [hZ];exact buildRf0
 have ak:=(at_new w C 22).alloc (.cells Z 25)
 have az:At ((w.alloc (.cells C 22)).alloc (.cells Z 25)) (w.heap.size+1) Z 25:=by
  have h:=at_new (w.alloc (.cells C 22)) Z 25
  simpa using h
 have bz:Below w.heap.size w ((w.alloc (.cells C 22)).alloc (.cells Z 25)):=((Below.refl _ _).alloc (Nat.le_refl _) _).alloc (by simp) _
 by_cases hb:sealBad block page=true
 ·have e1:hideR key ep place block page=([],zref,1):=by simp [hideR,hb]
  have e2:sealR key ep block page=([],1):=by simp [sealR,hb]
  rw [e2] at rs
  rw [e1]
  have RS:=zh rs;have CS:=zh cs;have ZS:=zh zs;have ZO:=zh zo;have BN:=zh bn;have AK:=zh ak;have AZ:=zh az;have BZ:=zh bz;have HZ:=zh hZ
  clear rs cs zs zo bn ak az bz hC hZ hb e1 e2 hv hp lk
  go_enter Tryz.func66,Tryz.ntmps66
  go_upto_region 1 with fail
  clear hx
  generalize (w.alloc (.cells C 22)).alloc (.cells Z 25)=w1 at *
  go_wp2_with (refine wpList_load_all zr 22 _ zr w.heap.size zr _ Tryz.underlying22 zr C _ AK.out (by rw [CS.out];exact infoDg) ?_)
  refine (RS.out w1 BZ.out).mono ?_
  rintro e w2 ⟨v2,rfl,_,hb2⟩
  have AZ2:=zh (AZ.out.below hb2 AZ.out.lt);have B2:=zh (BZ.out.trans (hb2.mono BZ.out.size))
  clear hb2 AZ AK BZ RS
  go_wp2_with (first
   | (refine Mem.wpList_build zr 25 _ #[] (.agg Z) zr (by simp) BN.out ?_)
   | (refine wpList_store_all zr 25 _ _ zr zr (w.heap.size+1) Z zr zr (by rw [ZS.out];exact infoRfR) Z 25 AZ2.out zr ZO.out ?_))
  try simp only [Exit.inBlock,Exit.then]
  refine ret_tmp_row_tmp zr (w.heap.size+1) 25 Z _ (.slice none 0 0) (.int .i64 1) zr zr zr (AZ2.out.row Z) Tryz.underlying25 zr (by rw [ZS.out];exact infoRfR) ?_
  exact ⟨_,by rw [HZ.out],OwnB.nil _ _,below_row B2.out (Nat.le_succ _) Z⟩
 ·have e2:sealR key ep block page=(sealL key ep block page,0):=by simp [sealR,hb]
  rw [e2] at rs
  obtain ⟨L,hL⟩:∃ L,L=sealL key ep block page:=⟨_,rfl⟩
  rw [←hL] at rs
  by_cases hpl:place < 0∨1 < place
  ·have e1:hideR key ep place block page=([],zref,1):=by simp [hideR,hpl]
   rw [e1]
   have RS:=zh rs;have CS:=zh cs;have ZS:=zh zs;have ZO:=zh zo;have BN:=zh bn;have AK:=zh ak;have AZ:=zh az;have BZ:=zh bz;have HZ:=zh hZ
   clear rs cs zs zo bn ak az bz hC hZ hb e1 e2 hv hp lk hL
   rcases hpl with g1 | g1
   ·go_enter Tryz.func66,Tryz.ntmps66
    go_upto_region 1 with fail
    clear hx
    generalize (w.alloc (.cells C 22)).alloc (.cells Z 25)=w1 at *
    go_wp2_with (refine wpList_load_all zr 22 _ zr w.heap.size zr _ Tryz.underlying22 zr C _ AK.out (by rw [CS.out];exact infoDg) ?_)
    refine (RS.out w1 BZ.out).mono ?_
    rintro e w2 ⟨v2,rfl,_,hb2⟩
    have AZ2:=zh (AZ.out.below hb2 AZ.out.lt);have B2:=zh (BZ.out.trans (hb2.mono BZ.out.size))
    clear hb2 AZ AK BZ RS
    go_wp2_with (first
     | (refine Mem.wpList_build zr 25 _ #[] (.agg Z) zr (by simp) BN.out ?_)
     | (refine wpList_store_all zr 25 _ _ zr zr (w.heap.size+1) Z zr zr (by rw [ZS.out];exact infoRfR) Z 25 AZ2.out zr ZO.out ?_))
    try simp only [Exit.inBlock,Exit.then]
    refine ret_tmp_row_tmp zr (w.heap.size+1) 25 Z _ (.slice none 0 0) (.int .i64 1) zr zr zr (AZ2.out.row Z) Tryz.underlying25 zr (by rw [ZS.out];exact infoRfR) ?_
    exact ⟨_,by rw [HZ.out],OwnB.nil _ _,below_row B2.out (Nat.le_succ _) Z⟩
   ·have g0:¬ place < 0:=by omega
    go_enter Tryz.func66,Tryz.ntmps66
    go_upto_region 1 with fail
    clear hx
    generalize (w.alloc (.cells C 22)).alloc (.cells Z 25)=w1 at *
    go_wp2_with (refine wpList_load_all zr 22 _ zr w.heap.size zr _ Tryz.underlying22 zr C _ AK.out (by rw [CS.out];exact infoDg) ?_)
    refine (RS.out w1 BZ.out).mono ?_
    rintro e w2 ⟨v2,rfl,_,hb2⟩
    have AZ2:=zh (AZ.out.below hb2 AZ.out.lt);have B2:=zh (BZ.out.trans (hb2.mono BZ.out.size))
    clear hb2 AZ AK BZ RS
    go_wp2_with (first
     | (refine Mem.wpList_build zr 25 _ #[] (.agg Z) zr (by simp) BN.out ?_)
     | (refine wpList_store_all zr 25 _ _ zr zr (w.heap.size+1) Z zr zr (by rw [ZS.out];exact infoRfR) Z 25 AZ2.out zr ZO.out ?_))
    try simp only [Exit.inBlock,Exit.then]
    refine ret_tmp_row_tmp zr (w.heap.size+1) 25 Z _ (.slice none 0 0) (.int .i64 1) zr zr zr (AZ2.out.row Z) Tryz.underlying25 zr (by rw [ZS.out];exact infoRfR) ?_
    exact ⟨_,by rw [HZ.out],OwnB.nil _ _,below_row B2.out (Nat.le_succ _) Z⟩
  ·have e1:hideR key ep place block page=(L,⟨place,ep,digestOf L⟩,0):=by simp [hideR,hb,hpl,hL]
   rw [e1]
   have g0:¬ place < 0:=by omega
   have g1:¬ 1 < place:=by omega
   have hll:L.length≤1099511627776:=by rw [hL,sealL_length];omega
   have hln:L.length=256:=by rw [hL,sealL_length];simp [sealBad] at hb;omega
   have sm:=fun wx (vx:Value) (h:Sl wx vx L)=>rsum_any L vx wx h hll
   obtain ⟨D,hD⟩:∃ D,D=dgOf L:=⟨_,rfl⟩
   have b3:∀ wx,(Instr.build 25 #[(0,.int .i64 place),(1,.int .u32 (V ep)),(2,.agg D)]).run Tryz.prog wx=.ok (.agg (refC ⟨place,ep,digestOf L⟩)) wx:=fun wx=>by rw [hD];exact buildRf3 place ep (digestOf L) (digestOf_length _) wx
   rw [←hD] at sm
   obtain ⟨M,hM⟩:∃ M,M=refC ⟨place,ep,digestOf L⟩:=⟨_,rfl⟩
   have ms:M.size=34:=by rw [hM];exact refC_size (wf_dig place ep L (by omega) (by omega))
   have mo:M.all (·.oneCell')=true:=by rw [hM];exact refC_one _
   rw [←hM] at b3
   have RS:=zh rs;have CS:=zh cs;have ZS:=zh zs;have AK:=zh ak;have AZ:=zh az;have BZ:=zh bz;have HM:=zh hM;have MS:=zh ms;have MO:=zh mo;have B3:=zh b3;have SM:=zh sm;have LN:=zh hln
   clear hp0 hp1 hbk hln rs cs zs zo bn ak az bz hC hZ hb e1 e2 hv hp lk hL hpl sm b3 hM ms mo hD hll
   go_enter Tryz.func66,Tryz.ntmps66
   go_upto_region 1 with fail
   clear hx
   generalize (w.alloc (.cells C 22)).alloc (.cells Z 25)=w1 at *
   go_wp2_with (refine wpList_load_all zr 22 _ zr w.heap.size zr _ Tryz.underlying22 zr C _ AK.out (by rw [CS.out];exact infoDg) ?_)
   refine (RS.out w1 BZ.out).mono ?_
   rintro e w2 ⟨v2,rfl,hs2,hb2⟩
   have AZ2:=zh (AZ.out.below hb2 AZ.out.lt);have B2:=zh (BZ.out.trans (hb2.mono BZ.out.size));have S2:=zh hs2;have LT1:=zh AZ.out.lt
   clear hs2 hb2 AZ AK BZ RS
   go_wp2_with fail
   refine (SM.out w2 v2 (OwnB.sl S2.out)).mono ?_
   rintro e w3 ⟨rfl,hb3⟩
   have AZ3:=zh (AZ2.out.below hb3 AZ2.out.lt);have B4:=zh (B2.out.trans (hb3.mono B2.out.size));have S3:=zh (ownsRow_below S2.out hb3)
   clear hb3 AZ2 B2 S2 SM
   go_wp2_with (first
    | (refine Mem.wpList_build zr 25 _ #[(0,.int .i64 place),(1,.int .u32 (V ep)),(2,.agg D)] (.agg M) zr (by simp [Act.eval]) B3.out ?_)
    | (refine wpList_store_all zr 25 _ _ zr zr (w.heap.size+1) M zr zr (by rw [MS.out];exact infoRfR) Z 25 AZ3.out (by rw [ZS.out,MS.out]) MO.out ?_))
   try simp only [Exit.inBlock,Exit.then]
   refine ret_tmp_row_tmp zr (w.heap.size+1) 25 M _ v2 (.int .i64 0) zr zr zr (At.row (C:=Z) AZ3.out M) Tryz.underlying25 zr (by rw [MS.out];exact infoRfR) ?_
   refine ⟨_,by rw [HM.out],?_,below_row B4.out (Nat.le_succ _) M⟩
   exact ownsRow_base (ownsRow_keep S3.out fun g hg=>setRow_other w3 (w.heap.size+1) g M (by have:=(World.ownsRow.lt S3.out g hg).1;have:=LT1.out;omega)) (by have:=LT1.out;omega)
def pageL (l:Lb8):Lb8:=l.take 256++List.replicate (256 - l.length) 0
theorem pageL_length (l:Lb8):(pageL l).length=256:=by simp [pageL];omega
theorem splice_page (l:Lb8) (k:Nat) (hk:k=Nat.min l.length 256):Mem.splice (u8s (List.replicate 256 0)).toArray 0 (u8s (l.take k))=(u8s (pageL l)).toArray:=by
 have hk':k=min l.length 256:=hk
 have e1:l.take k=l.take 256:=by
  rw [hk']
  rcases Nat.le_total l.length 256 with h | h
  ·rw [Nat.min_eq_left h,List.take_of_length_le (Nat.le_refl _),List.take_of_length_le h]
  ·rw [Nat.min_eq_right h]
 have e2:(l.take 256).length=k:=by rw [List.length_take,hk',Nat.min_comm]
 have e3:(u8s (List.replicate 256 (0:BitVec 8))).drop k=u8s (List.replicate (256 - l.length) 0):=by
  unfold u8s
  rw [←List.map_drop,List.drop_replicate,show 256 - k=256 - l.length by omega]
 unfold Mem.splice pageL
 rw [e1,List.take_zero,List.nil_append,u8s_length,e2,Nat.zero_add]
 show (u8s (l.take 256)++(u8s (List.replicate 256 (0:BitVec 8))).drop k).toArray=_
 rw [e3]
 unfold u8s
 rw [List.map_append]
def K1:Lb8:=1::List.replicate 31 0
theorem notBad (block:Int) (l:Lb8) (h:l.length=256) (hb:0≤block):sealBad block l=false:=by
 have h1:¬ block < 0:=by omega
 simp [sealBad,h,h1]
theorem hideR_good (key:Lb8) (ep:BitVec 32) (place block:Int) (page:Lb8) (h:page.length=256) (hb:0≤block) (h0:0≤place) (h1:place≤1):hideR key ep place block page=(sealL key ep block page,⟨place,ep,digestOf (sealL key ep block page)⟩,0):=by
 have g:¬ (place < 0∨1 < place):=by omega
 unfold hideR
 rw [notBad block page h hb,Bool.false_or,if_neg (by simpa using g)]
end Sha
end Go.Proofs.YtplmfmpbkjnbaaaGreatDoor
namespace Go.Proofs.YtplmfmpbkjnbaaaGreatDoor
namespace Sha
open Go.RowKit Mem
section
end
theorem node_kids (p i:Nat) (h0:1≤p) (h1:p≤216) (hi:p≤i) (hit:i < itn p):1≤many p i∧fst p i+many p i≤i:=by
 have hl:=lv_of p h0 h1
 have hk:=fun j=>kids_cond p i j h0 h1 hi hit
 have h6:=many_le p i
 constructor
 ·have h2:=lev_lo p i
  have h3:=lev_hi p i (Nat.lt_of_lt_of_le hit (itn_le p))
  have hge:1≤lev p i:=by
   rcases Nat.eq_zero_or_pos (lev p i) with a | a
   ·rw [a,Nat.zero_add] at h3
    have:stn p 1=p:=rfl
    omega
   ·exact a
  have hle:=lev_le p i
  unfold many fst
  obtain ⟨k,hk⟩:∃ k,lev p i=k+1:=⟨lev p i - 1,by omega⟩
  rw [hk] at h2 h3 ⊢
  have e1:=stn_lvn p k (by omega)
  have e2:=stn_lvn p (k+1) (by omega)
  have e3:=lvn_cnt p k (by omega)
  have e4:=cnt_le (lvn p k)
  rw [Nat.add_sub_cancel]
  omega
 ·rcases Nat.eq_zero_or_pos (many p i) with a | a
  ·have h2:=lev_lo p i
   have h3:=lev_hi p i (Nat.lt_of_lt_of_le hit (itn_le p))
   exfalso
   have hge:1≤lev p i:=by
    rcases Nat.eq_zero_or_pos (lev p i) with b | b
    ·rw [b,Nat.zero_add] at h3
     have:stn p 1=p:=rfl
     omega
    ·exact b
   have hle:=lev_le p i
   unfold many fst at a
   obtain ⟨k,hk⟩:∃ k,lev p i=k+1:=⟨lev p i - 1,by omega⟩
   rw [hk] at h2 h3 a
   have e1:=stn_lvn p k (by omega)
   have e2:=stn_lvn p (k+1) (by omega)
   have e3:=lvn_cnt p k (by omega)
   have e4:=cnt_le (lvn p k)
   rw [Nat.add_sub_cancel] at a
   omega
  ·have:=((hk (many p i - 1)).2 (by omega)).2.1
   omega
section
end
end Sha
end Go.Proofs.YtplmfmpbkjnbaaaGreatDoor
namespace Go.Proofs.YtplmfmpbkjnbaaaGreatDoor
namespace Sha
open Go.RowKit Mem
abbrev ChV:=Int × Lb8
abbrev NdV:=Int × List RefV
def zch:ChV:=(0,[])
def znd:NdV:=(0,[])
def onW (p:Nat) (x:Int) (i:Nat):Bool:=(WZ p x).contains (i:Int)
def isN (p:Nat) (L:List Int) (i:Nat):Bool:=decide (p≤i) && L.any fun x=>onW p x i
def needT (p:Nat) (L:List Int):List Nat:=(List.range (itn p)).filter (isN p L)
def findT (N:List NdV) (z:Int):Option (List RefV):=(N.find? fun n=>n.1 == z).map (·.2)
def findD (N:List NdV) (z:Int):List RefV:=(findT N z).getD []
def pgsC (C:List ChV):List Int:=C.map (·.1)
abbrev riseT (p:Nat) (C:List ChV):Prop:=∀ i,i < C.length→(0≤(C.getD i zch).1∧(C.getD i zch).1 < (p:Int))∧(C.getD i zch).2.length=256∧(0 < i→(C.getD (i - 1) zch).1 < (C.getD i zch).1)
def nodeOk (p:Nat) (N:List NdV) (i:Nat):Bool:=decide ((findD N (i:Int)).length=many p i) && (findD N (i:Int)).all plOk
def mayT (p:Nat) (N:List NdV) (C:List ChV):Bool:=decide (riseT p C) && (needT p (pgsC C)).all (nodeOk p N)
section
variable (key:Lb8) (ep:BitVec 32) (p:Nat) (root:RefV) (N:List NdV) (C:List ChV)
def chgP (i:Nat):Option (Lb8):=(C.find? fun c=>c.1 == (i:Int)).map (·.2)
def oldC (i:Nat):RefV:=if i+1 < itn p then (findD N ((parN p i).1:Int)).getD (parN p i).2 zref else root
def oplC (i:Nat):Int:=(oldC p root N i).pl
def blkC (i:Nat):Nat:=2+2*i+(1 - oplC p root N i).toNat
def newC (F:List (Option RefV)) (q:Nat):List RefV:=(List.range (many p q)).map fun t=>(F.getD (fst p q+t) none).getD ((findD N (q:Int)).getD t zref)
def pageC (F:List (Option RefV)) (i:Nat):Option (Lb8):=if i < p then chgP C i else if isN p (pgsC C) i=true then some (layN (newC p N F i)).1 else none
def hidC (i:Nat) (pg:Lb8):Lb8 × RefV × Int:=hideR key ep (1 - oplC p root N i) (2+2*(i:Int)+(1 - oplC p root N i)) pg
def stpC (F:List (Option RefV)) (i:Nat):Option (Lb8 × RefV):=(pageC p N C F i).map fun pg=>((hidC key ep p root N i pg).1,(hidC key ep p root N i pg).2.1)
def frL:Nat→List (Option RefV)
 | 0=>[]
 | i+1=>frL i++[(stpC key ep p root N C (frL i) i).map (·.2)]
def selC (i:Nat):Option (Lb8 × RefV):=stpC key ep p root N C (frL key ep p root N C i) i
def frC (i:Nat):Option RefV:=(selC key ep p root N C i).map (·.2)
def putsC (n:Nat):List (Nat × Lb8):=(List.range n).filterMap fun i=>(selC key ep p root N C i).map fun s=>(blkC p root N i,s.1)
def refsC (n q:Nat):List RefV:=newC p N (frL key ep p root N C n) q
def ndsC (n:Nat):List NdV:=((List.range n).filter (isN p (pgsC C))).map fun (i:Nat)=>((i:Int),refsC key ep p root N C i i)
def rootC (n:Nat):RefV:=(if itn p≤n then frC key ep p root N C (itn p - 1) else none).getD root
def planT:List (Nat × Lb8) × List NdV × RefV × Int:=
 if mayT p N C=true∧plOk root=true then (putsC key ep p root N C (itn p),ndsC key ep p root N C (itn p),rootC key ep p root N C (itn p),0) else ([],[],zref,1)
end
theorem mem_need (p:Nat) (L:List Int) (i:Nat):i∈needT p L ↔ i < itn p∧isN p L i=true:=by
 unfold needT;rw [List.mem_filter,List.mem_range]
theorem isN_iff (p:Nat) (L:List Int) (i:Nat):isN p L i=true ↔ p≤i∧∃ x∈L,onW p x i=true:=by
 unfold isN;simp
theorem onW_iff (p:Nat) (x:Int) (i:Nat):onW p x i=true ↔ (0≤x∧x < (p:Int))∧∃ k,k≤topn p∧itp p x.toNat k=i:=by
 unfold onW WZ
 rw [List.contains_iff_mem]
 constructor
 ·intro h
  split at h
  ·rename_i hx
   refine ⟨hx,?_⟩
   unfold pathZ at h
   obtain ⟨k,hk,he⟩:=List.mem_map.1 h
   exact ⟨k,by have:=List.mem_range.1 hk;omega,by omega⟩
  ·cases h
 ·rintro ⟨hx,k,hk,he⟩
  rw [if_pos hx]
  unfold pathZ
  exact List.mem_map.2 ⟨k,List.mem_range.2 (by omega),by rw [he]⟩
theorem onW_par (p:Nat) (x:Int) (i:Nat) (h0:1≤p) (h1:p≤216) (hi:i+1 < itn p) (h:onW p x i=true):onW p x (parN p i).1=true:=by
 obtain ⟨hx,k,hk,he⟩:=(onW_iff p x i).1 h
 have hkt:k < topn p:=by
  rcases Nat.lt_or_ge k (topn p) with g | g
  ·exact g
  ·have e:k=topn p:=by omega
   have r:=itp_root p x.toNat h0 h1 (by omega)
   rw [e] at he
   omega
 refine (onW_iff p x _).2 ⟨hx,k+1,by omega,?_⟩
 rw [←he]
 rfl
theorem isN_par {p:Nat} {L:List Int} {i:Nat} (h0:1≤p) (h1:p≤216) (hi:i+1 < itn p) (h:isN p L i=true):isN p L (parN p i).1=true:=by
 obtain ⟨_,x,hx,hw⟩:=(isN_iff p L i).1 h
 exact (isN_iff p L _).2 ⟨(par_lev p i h0 h1 hi).2.2.2.1,x,hx,onW_par p x i h0 h1 hi hw⟩
theorem isN_page {p:Nat} {L:List Int} {x:Nat} (h0:1≤p) (h1:p≤216) (hx:x < p) (h:(x:Int)∈L):isN p L (parN p x).1=true:=by
 have hb:=itn_big p h0 h1
 have hw:onW p (x:Int) x=true:=(onW_iff p _ x).2 ⟨by omega,0,by omega,by simp [itp]⟩
 have hi:x+1 < itn p:=by omega
 exact (isN_iff p L _).2 ⟨(par_lev p x h0 h1 hi).2.2.2.1,_,h,onW_par p _ x h0 h1 hi hw⟩
section
variable {key:Lb8} {ep:BitVec 32} {p:Nat} {root:RefV} {N:List NdV} {C:List ChV}
theorem frL_length (n:Nat):(frL key ep p root N C n).length=n:=by
 induction n with
 | zero=>rfl
 | succ n ih=>rw [frL,List.length_append,ih];rfl
theorem frL_get (n i:Nat):(frL key ep p root N C n).getD i none=if i < n then frC key ep p root N C i else none:=by
 induction n with
 | zero=>rw [if_neg (by omega)];rfl
 | succ n ih=>
  rw [frL,List.getD_eq_getElem?_getD]
  by_cases h:i < n
  ·rw [List.getElem?_append_left (by rw [frL_length];exact h),←List.getD_eq_getElem?_getD,ih,if_pos h,if_pos (by omega)]
  ·by_cases e:i=n
   ·subst e
    rw [List.getElem?_append_right (by rw [frL_length];exact Nat.le_refl _),frL_length,Nat.sub_self,if_pos (by omega)]
    rfl
   ·rw [List.getElem?_eq_none (by rw [List.length_append,frL_length];simp;omega),if_neg (by omega)]
    rfl
theorem newC_length (F:List (Option RefV)) (q:Nat):(newC p N F q).length=many p q:=by simp [newC]
theorem refsC_length (n q:Nat):(refsC key ep p root N C n q).length=many p q:=newC_length _ _
theorem refsC_get (n q t:Nat) (ht:t < many p q):(refsC key ep p root N C n q).getD t zref=((if fst p q+t < n then frC key ep p root N C (fst p q+t) else none).getD ((findD N (q:Int)).getD t zref)):=by
 unfold refsC newC
 rw [List.getD_eq_getElem?_getD,List.getElem?_map,List.getElem?_range ht,Option.map_some,Option.getD_some,frL_get]
theorem refs_ext {L M:List RefV} {n:Nat} (h1:L.length=n) (h2:M.length=n) (h:∀ t,t < n→L.getD t zref=M.getD t zref):L=M:=by
 apply List.ext_getElem
 ·rw [h1,h2]
 ·intro i a b
  have g:=h i (by omega)
  rw [List.getD_eq_getElem?_getD,List.getD_eq_getElem?_getD,List.getElem?_eq_getElem a,List.getElem?_eq_getElem b] at g
  exact g
theorem getD_set_self (L:List RefV) (i:Nat) (r:RefV) (h:i < L.length):(L.set i r).getD i zref=r:=by
 rw [List.getD_eq_getElem?_getD,List.getElem?_set_self h];rfl
theorem getD_set_ne (L:List RefV) (i j:Nat) (r:RefV) (h:i≠j):(L.set i r).getD j zref=L.getD j zref:=by
 rw [List.getD_eq_getElem?_getD,List.getElem?_set_ne h,←List.getD_eq_getElem?_getD]
theorem refsC_zero (q:Nat) (h:(findD N (q:Int)).length=many p q):refsC key ep p root N C 0 q=findD N (q:Int):=
 refs_ext (refsC_length 0 q) h fun t ht=>by rw [refsC_get 0 q t ht,if_neg (by omega)];rfl
theorem putsC_succ (n:Nat):putsC key ep p root N C (n+1)=putsC key ep p root N C n++((selC key ep p root N C n).map fun s=>(blkC p root N n,s.1)).toList:=by
 unfold putsC
 rw [List.range_succ,List.filterMap_append]
 congr 1
theorem putsC_none {n:Nat} (h:selC key ep p root N C n=none):putsC key ep p root N C (n+1)=putsC key ep p root N C n:=by rw [putsC_succ,h];simp
theorem putsC_some {n:Nat} {s:Lb8 × RefV} (h:selC key ep p root N C n=some s):putsC key ep p root N C (n+1)=putsC key ep p root N C n++[(blkC p root N n,s.1)]:=by rw [putsC_succ,h];rfl
theorem frC_none {n:Nat} (h:selC key ep p root N C n=none):frC key ep p root N C n=none:=by unfold frC;rw [h];rfl
theorem frC_some {n:Nat} {s:Lb8 × RefV} (h:selC key ep p root N C n=some s):frC key ep p root N C n=some s.2:=by unfold frC;rw [h];rfl
theorem refsC_none {n q:Nat} (h:selC key ep p root N C n=none):refsC key ep p root N C (n+1) q=refsC key ep p root N C n q:=
 refs_ext (refsC_length _ _) (refsC_length _ _) fun t ht=>by
  rw [refsC_get _ _ _ ht,refsC_get _ _ _ ht]
  by_cases e:fst p q+t=n
  ·rw [if_pos (by omega),if_neg (by omega),e,frC_none h]
  ·by_cases g:fst p q+t < n
   ·rw [if_pos (by omega),if_pos g]
   ·rw [if_neg (by omega),if_neg g]
theorem refsC_own (h0:1≤p) (h1:p≤216) {n:Nat} {s:Lb8 × RefV} (h:selC key ep p root N C n=some s) (hn:n+1 < itn p):refsC key ep p root N C (n+1) (parN p n).1=(refsC key ep p root N C n (parN p n).1).set (parN p n).2 s.2:=by
 have hl:=par_lev p n h0 h1 hn
 have hk:=(kid_iff p (parN p n).1 n (parN p n).2 h0 h1 hl.2.2.2.1 hl.2.2.1).2 ⟨hn,rfl⟩
 refine refs_ext (refsC_length _ _) (by rw [List.length_set,refsC_length]) fun t ht=>?_
 rw [refsC_get _ _ _ ht]
 by_cases e:t=(parN p n).2
 ·subst e
  rw [getD_set_self _ _ _ (by rw [refsC_length];exact hk.1),hk.2,if_pos (by omega),frC_some h]
  rfl
 ·rw [getD_set_ne _ _ _ _ (fun h=>e h.symm),refsC_get _ _ _ ht]
  by_cases g:fst p (parN p n).1+t < n
  ·rw [if_pos (by omega),if_pos g]
  ·rw [if_neg (by omega),if_neg g]
theorem refsC_other (h0:1≤p) (h1:p≤216) {n q:Nat} (hq:p≤q) (hqt:q < itn p) (hne:n+1 < itn p→q≠(parN p n).1):refsC key ep p root N C (n+1) q=refsC key ep p root N C n q:=
 refs_ext (refsC_length _ _) (refsC_length _ _) fun t ht=>by
  rw [refsC_get _ _ _ ht,refsC_get _ _ _ ht]
  by_cases e:fst p q+t=n
  ·have:=(kid_iff p q n t h0 h1 hq hqt).1 ⟨ht,e⟩
   exact absurd (by rw [this.2]) (hne this.1)
  ·by_cases g:fst p q+t < n
   ·rw [if_pos (by omega),if_pos g]
   ·rw [if_neg (by omega),if_neg g]
theorem refsC_old (h0:1≤p) (h1:p≤216) {n:Nat} (hn:n+1 < itn p):(refsC key ep p root N C n (parN p n).1).getD (parN p n).2 zref=oldC p root N n:=by
 have hl:=par_lev p n h0 h1 hn
 have hk:=(kid_iff p (parN p n).1 n (parN p n).2 h0 h1 hl.2.2.2.1 hl.2.2.1).2 ⟨hn,rfl⟩
 rw [refsC_get _ _ _ hk.1,hk.2,if_neg (by omega)]
 unfold oldC
 rw [if_pos hn]
 rfl
theorem rootC_lt {n:Nat} (h:n < itn p):rootC key ep p root N C n=root:=by unfold rootC;rw [if_neg (by omega)];rfl
theorem rootC_last (h0:1≤p) (h1:p≤216) {s:Lb8 × RefV} (h:selC key ep p root N C (itn p - 1)=some s):rootC key ep p root N C (itn p)=s.2:=by
 have:=itn_big p h0 h1
 unfold rootC;rw [if_pos (Nat.le_refl _),frC_some h];rfl
theorem oldC_last {n:Nat} (h:¬ n+1 < itn p):oldC p root N n=root:=by unfold oldC;rw [if_neg h]
end
end Sha
end Go.Proofs.YtplmfmpbkjnbaaaGreatDoor
namespace Go.Proofs.YtplmfmpbkjnbaaaGreatDoor
namespace Sha
open Go.RowKit Mem
theorem KZ_node (p i:Nat) (hi:p≤i) (hit:i < itn p):(KZ p (i:Int)).length=many p i:=by
 unfold KZ
 rw [if_pos ⟨by omega,by omega⟩,kz_length,Int.toNat_natCast]
section
end
section
end
section
end
end Sha
end Go.Proofs.YtplmfmpbkjnbaaaGreatDoor
namespace Go.Proofs.YtplmfmpbkjnbaaaGreatDoor
namespace Sha
open Go.RowKit Mem
theorem at_slB {F:Foot} {w:World} {g n:Nat} {l:Lb8} {t:TypeId} (h:At w g (u8s l).toArray t) (hn:l.length=n) (hF:F g):SlB F w (.slice (some ⟨g,0,none⟩) n n) l:=by
 subst hn
 refine ⟨by simp [u8s_length],some ⟨g,0,none⟩,l.length,rfl,Nat.le_refl _,fun _=>⟨g,0,rfl,hF,h.lt,fun j u hu=>?_⟩⟩
 rw [h.cell,Nat.zero_add,List.getElem?_toArray];exact hu
def SBEnd (w:World) (L:Lb8) (e:Ending) (w':World):Prop:=∃ v,e=.returned v∧SlB (fun k=>w.heap.size≤k) w' v L∧Below w.heap.size w w'
theorem send_sb {w w':World} {L:Lb8} {e:Ending} (h:SEnd w L e w'):SBEnd w L e w':=by
 obtain ⟨g,rfl,ha,hg,hb⟩:=h
 exact ⟨_,rfl,at_slB ha rfl hg,hb⟩
def SealBEnd (w:World) (l:Lb8) (n:Int) (e:Ending) (w':World):Prop:=∃ v,e=.returned (.tuple #[v,.int .i64 n])∧SlB (fun k=>w.heap.size≤k) w' v l∧Below w.heap.size w w'
theorem pisBlock_any (block:Int) (l:Lb8) (v:Value) (w:World) (hv:Sl w v l):Calls Tryz.prog 142 #[.int .i64 block,v] w fun e w'=>e=.returned (.bool (!(sealBad block l)))∧Below w.heap.size w w':=by
 obtain ⟨a0,c0,rfl⟩:=sl_inv hv
 by_cases h2:block < 0
 ·have e0:sealBad block l=true:=by simp [sealBad,h2]
  rw [e0]
  obtain ⟨n,hn⟩:∃ n,n=l.length:=⟨_,rfl⟩
  rw [←hn]
  have h2':¬ (0:Int)≤block:=by omega
  clear hv e0 hn
  go_enter Tryz.func142,Tryz.ntmps142
  go_wp2_with fail
  go_ret
  exact ⟨rfl,Below.refl _ _⟩
 ·have h2':(0:Int)≤block:=by omega
  by_cases h1:l.length=256
  ·have e0:sealBad block l=false:=by simp [sealBad,h1,h2]
   rw [e0,h1]
   clear hv e0 h1
   go_enter Tryz.func142,Tryz.ntmps142
   go_wp2_with fail
   go_ret
   exact ⟨rfl,Below.refl _ _⟩
  ·have e0:sealBad block l=true:=by simp [sealBad,h1]
   rw [e0]
   obtain ⟨n,hn⟩:∃ n,n=l.length:=⟨_,rfl⟩
   rw [←hn] at h1 ⊢
   have h1':((n:Int) == 256)=false:=by
    have:¬ (n:Int)=256:=by omega
    simpa using this
   clear hv e0 hn
   go_enter Tryz.func142,Tryz.ntmps142
   go_wp2_with fail
   go_ret
   exact ⟨rfl,Below.refl _ _⟩
theorem pisPlace_any (place:Int) (w:World):Calls Tryz.prog 126 #[.int .i64 place] w fun e w'=>e=.returned (.bool (!(decide (place < 0∨1 < place))))∧Below w.heap.size w w':=by
 by_cases h0:place < 0
 ·have e0:decide (place < 0∨1 < place)=true:=by simp [h0]
  rw [e0]
  have h0':¬ (0:Int)≤place:=by omega
  clear e0
  go_enter Tryz.func126,Tryz.ntmps126
  go_wp2_with fail
  go_ret
  exact ⟨rfl,Below.refl _ _⟩
 ·have h0':(0:Int)≤place:=by omega
  by_cases h1:1 < place
  ·have e0:decide (place < 0∨1 < place)=true:=by simp [h1]
   rw [e0]
   have h1':¬ place≤1:=by omega
   clear e0
   go_enter Tryz.func126,Tryz.ntmps126
   go_wp2_with fail
   go_ret
   exact ⟨rfl,Below.refl _ _⟩
  ·have e0:decide (place < 0∨1 < place)=false:=by simp [h0,h1]
   rw [e0]
   have h1':place≤1:=by omega
   clear e0
   go_enter Tryz.func126,Tryz.ntmps126
   go_wp2_with fail
   go_ret
   exact ⟨rfl,Below.refl _ _⟩
theorem pturn_any (key:Lb8) (lk:key.length=32) (ep:BitVec 32) (block:Int) (h0:0≤block) (hbk:block≤9223372036854775807) (page:Lb8) (v:Value) (w:World) (hv:Sl w v page) (hp:page.length≤1048576) (hT:CTabs w) :
 Calls Tryz.prog 143 #[.agg (u8s key).toArray,.int .u32 (V ep),.int .i64 block,v] w (SBEnd w (sealL key ep block page)):=by
 obtain ⟨bb,hbb⟩:∃ bb,bb=BitVec.ofNat 64 block.toNat:=⟨_,rfl⟩
 have cv:=fun wx=>conv_i64u block bb hbb h0 hbk wx
 have non:=fun wx=>nonce_any ep bb wx
 have rt:∀ wx,Sl wx v page→CTabs wx→Calls Tryz.prog 159 #[.agg (u8s key).toArray,.agg (ncOf ep bb),.int .u32 0,v] wx (SBEnd wx (sealL key ep block page)):=fun wx h hL=>by
  have k:=turned_any key (cnonce ep bb) 0 page _ lk (cnonce_length _ _) hp wx h hL
  unfold sealL
  rw [←hbb]
  exact k.mono fun _ _ h=>send_sb h
 have ha:Below w.heap.size w (w.alloc (.cells (u8s key).toArray 22)):=(Below.refl _ _).alloc (Nat.le_refl _) _
 obtain ⟨C,hC⟩:∃ C,C=(u8s key).toArray:=⟨_,rfl⟩
 have cs:C.size=32:=by rw [hC];simp [u8s_length,lk]
 rw [←hC] at rt ha ⊢
 have an:=at_new w C 22
 obtain ⟨L,hL⟩:∃ L,L=sealL key ep block page:=⟨_,rfl⟩
 rw [←hL] at rt ⊢
 have CV:=zh cv;have NON:=zh non;have RT:=zh rt;have CS:=zh cs;have A1:=zh an;have BA:=zh ha;have S1:=zh (hv.below ha);have T1:=zh (hT.below ha (Nat.le_refl _))
 clear cv non rt cs an ha hv hC hL hbb lk hp hT h0 hbk
 obtain ⟨nc,hnc⟩:∃ nc,nc=ncOf ep bb:=⟨_,rfl⟩
 rw [←hnc] at NON RT
 clear hnc
 go_enter Tryz.func143,Tryz.ntmps143
 go_wp2_with fail
 obtain ⟨b1,hb1⟩:∃ b1,b1=w.heap.size:=⟨_,rfl⟩
 rw [←hb1] at A1 ⊢
 clear hb1
 generalize w.alloc (.cells C 22)=w1 at *
 have B1:Hid (Below w1.heap.size w1 w1.drew):=zh (Below.refl _ _).drew
 refine wp_region_plan_in (fun x=>Below w1.heap.size w1 x) (.take 0 (.take 1 (.take 2 (.take 3 (.take 5 (.sole 4 (.sole 6 (.take 7 .done)))))))) (by kernel_rfl) (by kernel_rfl) (by kernel_rfl) B1.out ?_
 refine plan_row 22 _ b1 _ C 22 zr zr zr ze (fun w' hw'=>A1.out.below hw' A1.out.lt) Tryz.underlying22 zr (by rw [CS.out];exact infoDg) ?_
 (simp only [Mem.zp,Mem.pb,Mem.pc])
 iterate 2 ((first | refine Mem.pm1 ?_ | refine Mem.pm2 ?_ | refine Mem.pt ?_ | refine Mem.pf ?_);(simp only [Mem.zp,Mem.pb,Mem.pc]))
 refine plan_conv 3 210 _ (.int .i64 block) (.int .u64 (bb.toNat:Int)) zr zr zr ze (fun wx=>CV.out wx) ?_
 (simp only [Mem.zp,Mem.pb,Mem.pc])
 (first | refine Mem.pm1 ?_ | refine Mem.pm2 ?_ | refine Mem.pt ?_ | refine Mem.pf ?_)
 (simp only [Mem.zp,Mem.pb,Mem.pc])
 refine plan_call 160 _ _ _ (by kernel_rfl) zr zr zr (by first | exact Mem.ev_none _ | (simp only [List.map_toArray,List.map_cons,List.map_nil,Mem.ev_tmp,List.getD_cons_succ,List.getD_cons_zero] <;> rfl)) ?_
 refine (NON.out _).mono ?_
 rintro o2 w2 ⟨rfl,hb⟩
 have B2:Hid (Below w1.heap.size w1 w2):=zh (B1.out.trans (hb.mono B1.out.size))
 clear hb
 refine ⟨_,rfl,B2.out,?_⟩
 (simp only [Mem.zp,Mem.pb,Mem.pc])
 refine plan_call 159 _ _ _ (by kernel_rfl) zr zr zr (by first | exact Mem.ev_none _ | (simp only [List.map_toArray,List.map_cons,List.map_nil,Mem.ev_tmp,List.getD_cons_succ,List.getD_cons_zero] <;> rfl)) ?_
 refine (RT.out _ (S1.out.below B2.out) (T1.out.below B2.out (Nat.le_refl _))).mono ?_
 rintro o3 w3 ⟨v3,rfl,hs,hb⟩
 have B3:Hid (Below w1.heap.size w1 w3):=zh (B2.out.trans (hb.mono B2.out.size))
 have S3:=zh hs
 clear hs hb
 refine ⟨_,rfl,B3.out,?_⟩
 (simp only [Mem.zp,Mem.pb,Mem.pc])
 (first | refine Mem.pm1 ?_ | refine Mem.pm2 ?_ | refine Mem.pt ?_ | refine Mem.pf ?_)
 (simp only [Mem.zp,Mem.pb,Mem.pc])
 refine plan_nil ?_
 go_wp2_with fail
 go_ret
 exact ⟨_,rfl,S3.out.mono fun k hk _=>Nat.le_trans BA.out.size (Nat.le_trans B2.out.size hk),BA.out.trans (B3.out.mono BA.out.size)⟩
theorem pseal_any (key:Lb8) (lk:key.length=32) (ep:BitVec 32) (block:Int) (hbk:block≤9223372036854775807) (page:Lb8) (v:Value) (w:World) (hv:Sl w v page) (hp:page.length≤1048576) (hT:CTabs w) :
 Calls Tryz.prog 127 #[.agg (u8s key).toArray,.int .u32 (V ep),.int .i64 block,v] w (SealBEnd w (sealR key ep block page).1 (sealR key ep block page).2):=by
 have ha:Below w.heap.size w (w.alloc (.cells (u8s key).toArray 22)):=(Below.refl _ _).alloc (Nat.le_refl _) _
 have ib:=fun wx (h:Below w.heap.size w wx)=>pisBlock_any block page v wx (hv.below h)
 have tn:=fun (h0:0≤block) wx (h:Below w.heap.size w wx)=>pturn_any key lk ep block h0 hbk page v wx (hv.below h) hp (hT.below h (Nat.le_refl _))
 obtain ⟨C,hC⟩:∃ C,C=(u8s key).toArray:=⟨_,rfl⟩
 have cs:C.size=32:=by rw [hC];simp [u8s_length,lk]
 rw [←hC] at tn ha ⊢
 have an:=at_new w C 22
 have IB:=zh ib;have CS:=zh cs;have A1:=zh an;have BA:=zh ha
 clear ib cs an ha hC
 by_cases hb:sealBad block page=true
 ·have e0:sealR key ep block page=([],1):=by simp [sealR,hb]
  rw [e0]
  rw [hb] at IB
  clear tn hb e0 hv hp hT lk hbk
  go_enter Tryz.func127,Tryz.ntmps127
  go_wp2_with fail
  refine (IB.out _ BA.out).mono ?_
  rintro e w2 ⟨rfl,hb2⟩
  have B2:=zh (BA.out.trans (hb2.mono BA.out.size))
  clear hb2
  go_wp2_with fail
  go_ret2
  exact ⟨_,rfl,slB_nil _ _,B2.out⟩
 ·have e0:sealR key ep block page=(sealL key ep block page,0):=by simp [sealR,hb]
  rw [e0]
  have hb':sealBad block page=false:=by simpa using hb
  have h0:0≤block:=by simp [sealBad] at hb';omega
  rw [hb'] at IB
  have TN:=zh (tn h0)
  clear tn hb hb' e0 hv hp hT lk hbk h0
  go_enter Tryz.func127,Tryz.ntmps127
  go_wp2_with fail
  refine (IB.out _ BA.out).mono ?_
  rintro e w2 ⟨rfl,hb2⟩
  have B2:=zh (BA.out.trans (hb2.mono BA.out.size));have A2:=zh (A1.out.below hb2 A1.out.lt)
  clear hb2
  go_wp2_with (refine wpList_load_all zr 22 _ zr w.heap.size zr _ Tryz.underlying22 zr C _ A2.out (by rw [CS.out];exact infoDg) ?_)
  refine (TN.out _ B2.out).mono ?_
  rintro e w3 ⟨v3,rfl,hs3,hb3⟩
  have B3:=zh (B2.out.trans (hb3.mono B2.out.size));have S3:=zh hs3
  clear hs3 hb3
  go_wp2_with fail
  go_ret2
  exact ⟨_,rfl,S3.out.mono fun k hk _=>Nat.le_trans B2.out.size hk,B3.out⟩
theorem pdigN_any (l:Lb8) (v:Value) (w:World) (hv:Sl w v l) (hp:l.length≤1048576) (hT:Tabs w) :
 Calls Tryz.prog 128 #[.pointer none,v] w fun e w'=>e=.returned (.agg (u8s (digestOf l)).toArray)∧Below w.heap.size w w':=by
 obtain ⟨Z,hZ⟩:∃ Z,Z=(u8s (List.replicate 32 (0:BitVec 8))).toArray:=⟨_,rfl⟩
 have zs:Z.size=32:=by rw [hZ];simp [u8s_length]
 have hx:∀ w,(zeroValue 22).run Tryz.prog w=.ok (.agg Z) w:=by rw [hZ];exact fun _=>by kernel_rfl
 obtain ⟨G,hG⟩:∃ G,G=(u8s (digestOf l)).toArray:=⟨_,rfl⟩
 have gs:G.size=32:=by rw [hG];simp [u8s_length,digestOf_length]
 have go:G.all (·.oneCell')=true:=by rw [hG];exact u8s_one _
 have hsum:=fun (wx:World) (vx:Value) (hx:Sls wx vx [l]) (ht:Tabs wx)=>sumAll_any [l] vx wx (by simp;omega) (by simp) hx ht
 rw [show [l].flatten=l by simp,←hG] at hsum
 have az:=at_new w Z 22
 have bz:Below w.heap.size w (w.alloc (.cells Z 22)):=(Below.refl _ _).alloc (Nat.le_refl _) _
 have hsl:=sls_lit1 (hv.below bz)
 rw [←hG]
 have bl:Below w.heap.size w ((w.alloc (.cells Z 22)).alloc (.cells #[v] 63)):=bz.alloc (by simp) _
 have az2:=az.alloc (.cells #[v] 63)
 have ht2:=hT.below bl (Nat.le_refl _)
 obtain ⟨a0,c0,rfl⟩:=sl_inv hv
 obtain ⟨n,hn⟩:∃ n,n=l.length:=⟨_,rfl⟩
 rw [←hn] at hsl bl az2 ht2 ⊢
 have ZS:=zh zs;have GS:=zh gs;have GO:=zh go;have SUM:=zh hsum;have SLS:=zh hsl;have BL:=zh bl;have AZ:=zh az2;have TT:=zh ht2
 clear zs gs go hsum hsl bl az2 ht2 az bz hv hp hT hZ hG hn
 go_enter Tryz.func128,Tryz.ntmps128
 go_wp2_with fail
 clear hx
 have hs2:(w.alloc (.cells Z 22)).heap.size=w.heap.size+1:=by simp
 rw [hs2] at SLS
 refine (SUM.out _ _ SLS.out TT.out).mono ?_
 rintro e w3 ⟨rfl,hb3⟩
 have A3:=zh (AZ.out.below hb3 AZ.out.lt);have B3:=zh (BL.out.trans (hb3.mono BL.out.size))
 clear hb3 SLS hs2 BL AZ TT SUM
 go_wp2_with (refine wpList_store_all zr 22 _ _ zr zr w.heap.size G zr zr (by rw [GS.out];exact infoDg) Z _ A3.out (by rw [ZS.out,GS.out]) GO.out ?_)
 try simp only [Exit.inBlock,Exit.then]
 refine ret_row zr w.heap.size 22 G _ zr (A3.out.row G) Tryz.underlying22 zr (by rw [GS.out];exact infoDg) ?_
 exact ⟨rfl,below_row B3.out (Nat.le_refl _) G⟩
abbrev bkp (b:Nat):Value:=.pointer (some ⟨b,0,none⟩)
structure BkV (F D:Foot) (bk:Nat) (w:World) (ts:List (Lb8)) (v:Value):Prop where
 box:F bk
 lt:∀ k,F k→k < w.heap.size
 row:At w bk #[v] 231
 ov:∀ k,v.ownBlock=some k→F k∧k≠bk
 dF:∀ k,D k→F k∧k≠bk∧v.ownBlock≠some k
 hs:∃ hs:List Value,Each2 (fun p q=>SlB D w p q) hs ts∧w.ownsRow 0 63 1 v ts.length hs
def Bk (F:Foot) (bk:Nat) (w:World) (ts:List (Lb8)):Prop:=∃ D v,BkV F D bk w ts v
theorem BkV.keep {F D:Foot} {bk:Nat} {w w':World} {ts:List (Lb8)} {v:Value} (h:BkV F D bk w ts v) (hs:w.heap.size≤w'.heap.size) (hk:∀ k,F k→k < w.heap.size→w'.heap[k]?=w.heap[k]?):BkV F D bk w' ts v:=by
 obtain ⟨l,h1,h2⟩:=h.hs
 refine ⟨h.box,fun k hF=>Nat.lt_of_lt_of_le (h.lt k hF) hs,?_,h.ov,h.dF,l,h1.mono fun _ _ g=>g.keep hs fun k hd hlt=>hk k (h.dF k hd).1 hlt,ownsRow_keep h2 fun g hg=>hk g (h.ov g hg).1 (World.ownsRow.lt h2 g hg).2⟩
 have h8:=h.row
 unfold At at *
 rw [hk bk h.box (h.lt bk h.box)];exact h8
theorem Bk.keep {F:Foot} {bk:Nat} {w w':World} {ts:List (Lb8)} (h:Bk F bk w ts) (hs:w.heap.size≤w'.heap.size) (hk:∀ k,F k→k < w.heap.size→w'.heap[k]?=w.heap[k]?):Bk F bk w' ts:=by
 obtain ⟨D,v,h⟩:=h
 exact ⟨D,v,h.keep hs hk⟩
theorem bk_add {F D:Foot} {bk:Nat} {w w2 w3 w5 w8:World} {ts:List (Lb8)} {v v' v2:Value} {x:Lb8} {hs:List Value} (h:BkV F D bk w ts v) (he:Each2 (fun p q=>SlB D w p q) hs ts) (hown:w.ownsRow 0 63 1 v ts.length hs)
 (hb:Below w.heap.size w w2) (ho:OwnB w2 w.heap.size v2 x) (hb2:Below w2.heap.size w2 w3) (ha:App w3 w5 v v') (hb5:Below 0 w3 w5) (ho5:w5.ownsRow 0 63 1 v' (ts.length+1) (hs++[v2]))
 (hA:At w8 bk #[v'] 231) (hk2:∀ k,k≠bk→w8.heap[k]?=w5.heap[k]?) (hk:∀ B a,Below B a w5→B≤bk→Below B a w8) :
 Bk (grow F w w8) bk w8 (ts++[x])∧Chg F w w8:=by
 have hb3:Below w.heap.size w w3:=hb.trans (hb2.mono hb.size)
 have hbk:=h.lt bk h.box
 have h58:=hk 0 w5 (Below.refl _ _) (Nat.zero_le _)
 have h35:=ha.size
 have hsz:w.heap.size≤w8.heap.size:=Nat.le_trans hb3.size (Nat.le_trans h35 h58.size)
 have s2:SlB (fun k=>D k∨v2.ownBlock=some k) w3 v2 x:=by
  have h0:SlB (fun k=>D k∨v2.ownBlock=some k) w2 v2 x:=by
   refine ⟨by simp [u8s_length],?_⟩
   obtain ⟨a,cap,e,hc,hr⟩:=ho.open
   refine ⟨a,cap,e,hc,fun hne=>?_⟩
   obtain ⟨g,ea,_,hlt,hcell⟩:=hr (fun h0=>hne (by rw [h0];rfl))
   refine ⟨g,0,ea,.inr (by rw [e,ea];rfl),hlt,fun j u hu=>?_⟩
   have hj:j < x.length:=by
    have:=(List.getElem?_eq_some_iff.1 hu).1
    rwa [u8s_length] at this
   rw [Nat.zero_add,hcell j hj,←u8s_get x j hj,hu]
  exact h0.keep hb2.size fun k _ hlt=>hb2.block k hlt
 have e3:Each2 (fun p q=>SlB (fun k=>D k∨v2.ownBlock=some k) w3 p q) (hs++[v2]) (ts++[x]):=
  Each2.snoc s2 (he.mono fun _ _ g=>(g.keep hb3.size fun k _ hlt=>hb3.block k hlt).mono fun _ hk _=>.inl hk)
 have hv':∀ k,v'.ownBlock=some k→(F k∨w3.heap.size≤k)∧k≠bk∧k < w5.heap.size:=fun k hk'=>by
  have hlt:=(World.ownsRow.lt ho5 k hk').2
  rcases ha.b with e | ⟨g,e,hg⟩
  ·rw [e] at hk';exact ⟨.inl (h.ov k hk').1,(h.ov k hk').2,hlt⟩
  ·rw [e] at hk'
   have e2:g=k:=by simpa using hk'
   have:=hb3.size
   exact ⟨.inr (by omega),by omega,hlt⟩
 have hd':∀ k,(D k∨v2.ownBlock=some k)→(F k∨w.heap.size≤k)∧k≠bk∧v.ownBlock≠some k∧k < w3.heap.size:=fun k hk'=>by
  rcases hk' with hk' | hk'
  ·have hl:=h.lt k (h.dF k hk').1
   have:=hb3.size
   exact ⟨.inl (h.dF k hk').1,(h.dF k hk').2.1,(h.dF k hk').2.2,by omega⟩
  ·have h6:=ho.lt k hk'
   have:=hb2.size
   refine ⟨.inr h6.1,by omega,fun e=>?_,by omega⟩
   have:=(World.ownsRow.lt hown k e).2
   omega
 refine ⟨⟨fun k=>D k∨v2.ownBlock=some k,v',⟨.inl h.box,hA.lt⟩,grow_lt,hA,fun k hk'=>?_,fun k hk'=>?_,hs++[v2],?_,?_⟩,?_⟩
 ·obtain ⟨h1,h2,h3⟩:=hv' k hk'
  have:=hb3.size
  have:=h58.size
  exact ⟨⟨h1.imp id fun g=>by omega,by omega⟩,h2⟩
 ·obtain ⟨h1,h2,h3,h4⟩:=hd' k hk'
  have:=h58.size
  refine ⟨⟨h1,by omega⟩,h2,fun e=>?_⟩
  rcases ha.b with e2 | ⟨g,e2,hg⟩
  ·rw [e2] at e;exact h3 e
  ·rw [e2] at e
   have:g=k:=by simpa using e
   omega
 ·refine e3.mono fun _ _ g=>g.keep (Nat.le_trans h35 h58.size) fun k hd hlt=>?_
  obtain ⟨_,h2,h3,_⟩:=hd' k hd
  rw [hk2 k h2,ha.k k hlt h3]
 ·rw [List.length_append]
  exact ownsRow_keep ho5 fun g hg=>hk2 g (hv' g hg).2.1
 ·refine ⟨h58.os.trans (hb5.os.trans hb3.os),h58.tape.trans (hb5.tape.trans hb3.tape),h58.output.trans (hb5.output.trans hb3.output),hsz,fun k hlt hn=>?_⟩
  have hne:k≠bk:=fun e=>hn (e ▸ h.box)
  rw [hk2 k hne,ha.k k (Nat.lt_of_lt_of_le hlt hb3.size) fun e=>hn (h.ov k e).1,hb3.block k hlt]
def BkO (F:Foot) (bp:Value) (w:World) (ts:List (Lb8)):Prop:=(bp=.pointer none∧∀ k,¬ F k)∨∃ bk,bp=bkp bk∧Bk F bk w ts
theorem BkO.keep {F:Foot} {bp:Value} {w w':World} {ts:List (Lb8)} (h:BkO F bp w ts) (hs:w.heap.size≤w'.heap.size) (hk:∀ k,F k→k < w.heap.size→w'.heap[k]?=w.heap[k]?):BkO F bp w' ts:=
 h.imp id fun ⟨bk,e,g⟩=>⟨bk,e,g.keep hs hk⟩
theorem BkO.below {F:Foot} {bp:Value} {w w':World} {ts:List (Lb8)} (h:BkO F bp w ts) (hb:Below w.heap.size w w'):BkO F bp w' ts:=h.keep hb.size fun k _ hlt=>hb.block k hlt
theorem BkO.lt {F:Foot} {bp:Value} {w:World} {ts:List (Lb8)} (h:BkO F bp w ts):∀ k,F k→k < w.heap.size:=fun k hF=>by
 rcases h with ⟨_,h⟩ | ⟨bk,_,D,v,h⟩
 ·exact absurd hF (h k)
 ·exact h.lt k hF
def BkEnd (F:Foot) (bp:Value) (w:World) (ts:List (Lb8)) (w':World):Prop:=(∃ F',BkO F' bp w' ts∧∀ k,F' k→F k∨w.heap.size≤k)∧Chg F w w'
theorem elemRS9:elemR Tryz.prog 64 63 (.slice none 0 0) 1 24:=⟨Tryz.underlying64,by kernel_rfl⟩
theorem infoSh9:(Tryz.prog.info? 64).map (·.size)=some 1:=by kernel_rfl
theorem own_hd9 {w:World} {B n:Nat} {v:Value} {l:Lb8} (h:OwnB w B v l) (hn:n=l.length):∃ a c,v=.slice a n c:=by
 subst hn
 obtain ⟨a,c,e,_⟩:=h.open
 exact ⟨a,c,e⟩
theorem dig_end {F:Foot} {bk:Nat} {w w1 w8 w9:World} {ts:List (Lb8)} (hal:Below w.heap.size w w1) (flt:∀ k,F k→k < w.heap.size) (h1:w1.heap.size=w.heap.size+1) (h:Bk (grow F w1.drew w8) bk w8 ts∧Chg F w1.drew w8) (hb:Below w8.heap.size w8 w9) (M:Array Value) :
 (∃ F',Bk F' bk (w9.setRow w.heap.size M) ts∧∀ k,F' k→F k∨w.heap.size≤k)∧Chg F w (w9.setRow w.heap.size M):=by
 refine ⟨⟨grow F w1.drew w8,(h.1.keep hb.size fun k _ hlt=>hb.block k hlt).keep (by simp) fun k hk _=>setRow_other w9 _ k M ?_,fun k hk=>?_⟩,?_⟩
 ·rcases hk.1 with g | g
  ·have:=flt k g;omega
  ·have g:w1.heap.size≤k:=g
   omega
 ·rcases hk.1 with g | g
  ·exact .inl g
  ·have g:w1.heap.size≤k:=g
   exact .inr (by omega)
 ·have c9:Chg F w w9:=(((Chg.of_below hal).drew).trans (F1:=F) h.2 fun _ hx=>.inl hx).trans (F1:=F) (Chg.of_below hb) fun _ hx=>.inl hx
  exact c9.trans (F1:=fun k=>k=w.heap.size) ⟨rfl,rfl,rfl,by simp,fun k _ hn=>setRow_other w9 _ k M hn⟩ fun x hx=>.inr (by omega)
theorem pdigB_any {F G:Foot} {bk:Nat} {ts:List (Lb8)} (l:Lb8) (v:Value) (w x:World) (hr:Bk F bk w ts) (hn:ts.length < 100000) (hv:SlB G w v l) (hG:∀ k,G k→¬ F k) (hp:l.length≤1000000) (hT:Tabs x) (hxw:Below x.heap.size x w) (hF:∀ k,F k→x.heap.size≤k) :
 Calls Tryz.prog 128 #[bkp bk,v] w fun e w'=>e=.returned (.agg (u8s (digestOf l)).toArray)∧((∃ F',Bk F' bk w' (ts++[l])∧∀ k,F' k→F k∨w.heap.size≤k)∧Chg F w w'):=by
 obtain ⟨Z,hZ⟩:∃ Z,Z=(u8s (List.replicate 32 (0:BitVec 8))).toArray:=⟨_,rfl⟩
 have zs:Z.size=32:=by rw [hZ];simp [u8s_length]
 have hx:∀ w,(zeroValue 22).run Tryz.prog w=.ok (.agg Z) w:=by rw [hZ];exact fun _=>by kernel_rfl
 obtain ⟨G32,hG32⟩:∃ G,G=(u8s (digestOf l)).toArray:=⟨_,rfl⟩
 have gs:G32.size=32:=by rw [hG32];simp [u8s_length,digestOf_length]
 have go:G32.all (·.oneCell')=true:=by rw [hG32];exact u8s_one _
 have hsum:=fun (wx:World) (vx:Value) (hx:Sls wx vx [l]) (ht:Tabs wx)=>sumAll_any [l] vx wx (by simp;omega) (by simp) hx ht
 rw [show [l].flatten=l by simp,←hG32] at hsum
 rw [←hG32]
 have hal:Below w.heap.size w (w.alloc (.cells Z 22)):=(Below.refl _ _).alloc (Nat.le_refl _) _
 have haz:=at_new w Z 22
 obtain ⟨w1,hw1⟩:∃ w1,w1=w.alloc (.cells Z 22):=⟨_,rfl⟩
 obtain ⟨D,vb,hb0⟩:=hr
 have hb1:BkV F D bk w1 ts vb:=by rw [hw1];exact hb0.keep hal.size fun k _ hlt=>hal.block k hlt
 have hv1:SlB G w1 v l:=by rw [hw1];exact hv.keep hal.size fun k _ hlt=>hal.block k hlt
 rw [←hw1] at haz hal
 obtain ⟨hs,he,hown⟩:=hb1.hs
 obtain ⟨asx,caps,rfl⟩:=rows_hd hown
 have hbkw:bk < w.heap.size:=hb0.lt bk hb0.box
 have hFlt:=hb0.lt
 have hne:=own_ne_at hown hb1.row (by decide)
 have hcl:=pclone_any l v w1.drew hp (hv1.sl.below (Below.refl _ _).drew)
 obtain ⟨a0,c0,rfl⟩:=sl_inv hv.sl
 obtain ⟨L,hL⟩:∃ L,L=l.length:=⟨_,rfl⟩
 obtain ⟨M,hM⟩:∃ M,M=ts.length:=⟨_,rfl⟩
 rw [←hL] at hv hv1 hcl ⊢
 rw [←hM] at hn hb1 hown hne
 have hrow:=hb1.row
 have g1:(M:Int) < 100000:=by omega
 have c1:w1.drew.cell? ⟨bk,0,none⟩=some (.slice asx M caps):=by show w1.cell? _=_;rw [hrow.cell];rfl
 have c1':w1.cell? ⟨bk,0,none⟩=some (.slice asx M caps):=c1
 have HV:Hid (BkV F D bk w1.drew ts (.slice asx M caps)):=zh (hb1.keep (Nat.le_refl _) fun _ _ _=>rfl)
 have CL:=zh hcl;have HROW:Hid (At w1.drew bk #[.slice asx M caps] 231):=hrow.drew;have HO:Hid (w1.drew.ownsRow 0 63 1 (.slice asx M caps) M hs):=hown;have HE:Hid (Each2 (fun p q=>SlB D w1.drew p q) hs ts):=he
 have ZS:=zh zs;have GS:=zh gs;have GO:=zh go;have SUM:=zh hsum;have HAL:=zh hal;have HAZ:=zh haz;have HV1:=zh hv1;have HG:=zh hG;have HF:=zh hF;have HX:=zh hxw;have HT:=zh hT;have C1:=zh c1;have NE:=zh hne;have HM:=zh hM;have XL:=zh hL;have BKW:=zh hbkw;have HW1:=zh hw1;have FLT:=zh hFlt
 clear zs gs go hsum hal haz hv1 hv hG hF hxw hT hb1 hb0 hcl hrow hown he hne hM hL hZ hG32 hp hbkw hFlt
 go_enter Tryz.func128,Tryz.ntmps128
 go_upto_region 1 with fail
 rw [←HW1.out]
 clear hx hw1
 go_wp2_with fail
 refine wp_region_plan_in (fun _=>True) (.take 0 (.take 1 (.take 2 (.take 3 (.take 5 (.two 4 6 (.sole 6 (.sole 7 (.sole 8 (.take 9 (.take 10 (.sole 11 .done)))))) (.two 4 7 (.sole 7 (.sole 8 (.take 9 (.take 10 (.sole 11 .done))))) (.sole 4 (.sole 8 (.take 9 (.take 10 (.sole 11 .done)))))))))))) (by kernel_rfl) (by kernel_rfl) (by kernel_rfl) trivial ?_
 iterate 2 ((first | refine Mem.pm1 ?_ | refine Mem.pm2 ?_ | refine Mem.pt ?_ | refine Mem.pf ?_);(simp only [Mem.zp,Mem.pb,Mem.pc]))
 refine plan_nilcheck _ ⟨bk,0,none⟩ zr zr zr ze ?_
 (simp only [Mem.zp,Mem.pb,Mem.pc])
 refine plan_field 231 _ 0 bk 0 ⟨bk,0,none⟩ zr zr zr ze (fun wx=>by go_simp) ?_
 (simp only [Mem.zp,Mem.pb,Mem.pc])
 (first | refine Mem.pm1 ?_ | refine Mem.pm2 ?_ | refine Mem.pt ?_ | refine Mem.pf ?_)
 (simp only [Mem.zp,Mem.pb,Mem.pc])
 refine plan_two ?_ ?_
 ·refine plan_sole_cell 64 _ _ (.slice asx M caps) _ zr zr zr ze (by first | exact C1.out | exact C2.out | exact C3.out) Tryz.underlying64 zr trivial ?_
  (simp only [Mem.zp,Mem.pb,Mem.pc])
  refine plan_call 81 _ _ _ (by kernel_rfl) zr zr zr (by first | exact Mem.ev_none _ | (simp only [List.map_toArray,List.map_cons,List.map_nil,Mem.ev_tmp,List.getD_cons_succ,List.getD_cons_zero] <;> rfl)) ?_
  refine CL.out.mono ?_
  rintro o w2 ⟨v2,rfl,ho2,hb2⟩
  obtain ⟨a2,c2,rfl⟩:=own_hd9 ho2 XL.out
  have C2:Hid (w2.cell? ⟨bk,0,none⟩=some (.slice asx M caps)):=by have h:=C1.out;rw [hb2.cell (p:=⟨bk,0,none⟩) (HV.out.lt bk HV.out.box)];exact h
  have C3:Hid ((w2.alloc (.cells #[.slice a2 L c2] 63)).cell? ⟨bk,0,none⟩=some (.slice asx M caps)):=(cell_alloc (block_lt_of_cell C2.out)).trans C2.out
  have O2:=zh ho2;have B2:=zh hb2;have OW:=zh (ownsRow_below (ownsRow_below HO.out hb2) ((Below.refl _ w2).alloc (Nat.le_refl _) (.cells #[.slice a2 L c2] 63)))
  clear ho2 hb2
  refine ⟨_,rfl,trivial,?_⟩
  (simp only [Mem.zp,Mem.pb,Mem.pc])
  refine plan_slice 64 63 1 _ #[.slice a2 L c2] zr zr zr Tryz.underlying64 (by kernel_rfl) trivial ?_
  (simp only [Mem.zp,Mem.pb,Mem.pc])
  refine plan_append_app _ _ 64 zr zr zr (.slice (some ⟨w2.heap.size,0,none⟩) 1 1) M 1 1 [.slice a2 L c2] (.slice none 0 0) 24 elemRS9 zr (by decide) ze OW.out ze (by exact rdR_new (e:=63) (C:=#[.slice a2 L c2])) (by simp [Value.oneCell']) (by omega) (by omega) (by omega) ?_
  intro v5 w5 ho5 ha5 hb5
  obtain ⟨a5,c5,rfl⟩:=rows_hd ho5
  have O5:=zh ho5;have A5:=zh ha5;have B5:=zh hb5
  have R5:Hid (At w5 bk #[.slice asx M caps] 231):=zh (at_appd (((HROW.out.below B2.out (HV.out.lt bk HV.out.box))).alloc _) A5.out NE.out)
  clear ho5 ha5 hb5
  refine ⟨trivial,?_⟩
  (simp only [Mem.zp,Mem.pb,Mem.pc])
  refine plan_nilcheck _ ⟨bk,0,none⟩ zr zr zr ze ?_
  (simp only [Mem.zp,Mem.pb,Mem.pc])
  refine plan_field 231 _ 0 bk 0 ⟨bk,0,none⟩ zr zr zr ze (fun wx=>by go_simp) ?_
  (simp only [Mem.zp,Mem.pb,Mem.pc])
  refine plan_store_one 64 _ _ bk 0 (.slice a5 (M+1) c5) _ 231 zr zr zr zr ze ze zr infoSh9 R5.out (by simp) trivial ?_
  refine plan_nil ?_
  have E8:=zh (bk_add (v':=.slice a5 (M+1) c5) HV.out HE.out (by rw [←HM.out];exact HO.out) B2.out O2.out ((Below.refl _ w2).alloc (Nat.le_refl _) _) A5.out B5.out (by rw [←HM.out];exact O5.out) (R5.out.set 0 (.slice a5 (M+1) c5)) (fun k hk=>heap_setCell_other w5 ⟨bk,0,none⟩ k _ hk) (fun B a hB hle=>hB.setCell hle _))
  generalize w5.setCell ⟨bk,0,none⟩ (.slice a5 (M+1) c5)=w8 at *
  clear R5 A5 B5 O5 OW C2 C3 O2 B2 HO HE HROW C1 CL NE XL
  clear HV
  have S8:Hid (SlB G w8 (.slice a0 L c0) l):=zh (HV1.out.keep E8.out.2.size fun k hg hlt=>E8.out.2.block k hlt (HG.out k hg))
  have BX:Hid (Below x.heap.size x w1):=zh (HX.out.trans (HAL.out.mono HX.out.size))
  have BX8:Hid (Below x.heap.size x w8):=zh (E8.out.2.below BX.out.drew HF.out BX.out.size)
  have A8:Hid (At w8 w.heap.size Z 22):=zh (HAZ.out.drew.chg E8.out.2 fun hf=>Nat.lt_irrefl _ (FLT.out _ hf))
  have SLS:=zh (sls_lit1 S8.out.sl)
  have T8:=zh (HT.out.below (BX8.out.alloc BX8.out.size (.cells #[.slice a0 L c0] 63)) (Nat.le_refl _))
  have A9:=zh (A8.out.alloc (.cells #[.slice a0 L c0] 63))
  clear S8 BX BX8 A8
  go_wp2_with fail
  refine (SUM.out _ _ SLS.out T8.out).mono ?_
  rintro e w9 ⟨rfl,hb9⟩
  have A10:=zh (A9.out.below hb9 A9.out.lt)
  have B10:Hid (Below w8.heap.size w8 w9):=zh (((Below.refl _ w8).alloc (Nat.le_refl _) (.cells #[.slice a0 L c0] 63)).trans (hb9.mono (by simp)))
  clear hb9 SLS T8 A9
  go_wp2_with (refine wpList_store_all zr 22 _ _ zr zr w.heap.size G32 zr zr (by rw [GS.out];exact infoDg) Z _ A10.out (by rw [ZS.out,GS.out]) GO.out ?_)
  try simp only [Exit.inBlock,Exit.then]
  refine ret_row zr w.heap.size 22 G32 _ zr (A10.out.row G32) Tryz.underlying22 zr (by rw [GS.out];exact infoDg) ?_
  exact ⟨rfl,dig_end HAL.out FLT.out (by rw [HW1.out];simp) E8.out B10.out G32⟩
 ·refine plan_call 81 _ _ _ (by kernel_rfl) zr zr zr (by first | exact Mem.ev_none _ | (simp only [List.map_toArray,List.map_cons,List.map_nil,Mem.ev_tmp,List.getD_cons_succ,List.getD_cons_zero] <;> rfl)) ?_
  refine CL.out.mono ?_
  rintro o w2 ⟨v2,rfl,ho2,hb2⟩
  obtain ⟨a2,c2,rfl⟩:=own_hd9 ho2 XL.out
  have C2:Hid (w2.cell? ⟨bk,0,none⟩=some (.slice asx M caps)):=by have h:=C1.out;rw [hb2.cell (p:=⟨bk,0,none⟩) (HV.out.lt bk HV.out.box)];exact h
  have C3:Hid ((w2.alloc (.cells #[.slice a2 L c2] 63)).cell? ⟨bk,0,none⟩=some (.slice asx M caps)):=(cell_alloc (block_lt_of_cell C2.out)).trans C2.out
  have O2:=zh ho2;have B2:=zh hb2;have OW:=zh (ownsRow_below (ownsRow_below HO.out hb2) ((Below.refl _ w2).alloc (Nat.le_refl _) (.cells #[.slice a2 L c2] 63)))
  clear ho2 hb2
  refine ⟨_,rfl,trivial,?_⟩
  (simp only [Mem.zp,Mem.pb,Mem.pc])
  refine plan_two ?_ ?_
  ·refine plan_sole_cell 64 _ _ (.slice asx M caps) _ zr zr zr ze (by first | exact C1.out | exact C2.out | exact C3.out) Tryz.underlying64 zr trivial ?_
   (simp only [Mem.zp,Mem.pb,Mem.pc])
   refine plan_slice 64 63 1 _ #[.slice a2 L c2] zr zr zr Tryz.underlying64 (by kernel_rfl) trivial ?_
   (simp only [Mem.zp,Mem.pb,Mem.pc])
   refine plan_append_app _ _ 64 zr zr zr (.slice (some ⟨w2.heap.size,0,none⟩) 1 1) M 1 1 [.slice a2 L c2] (.slice none 0 0) 24 elemRS9 zr (by decide) ze OW.out ze (by exact rdR_new (e:=63) (C:=#[.slice a2 L c2])) (by simp [Value.oneCell']) (by omega) (by omega) (by omega) ?_
   intro v5 w5 ho5 ha5 hb5
   obtain ⟨a5,c5,rfl⟩:=rows_hd ho5
   have O5:=zh ho5;have A5:=zh ha5;have B5:=zh hb5
   have R5:Hid (At w5 bk #[.slice asx M caps] 231):=zh (at_appd (((HROW.out.below B2.out (HV.out.lt bk HV.out.box))).alloc _) A5.out NE.out)
   clear ho5 ha5 hb5
   refine ⟨trivial,?_⟩
   (simp only [Mem.zp,Mem.pb,Mem.pc])
   refine plan_nilcheck _ ⟨bk,0,none⟩ zr zr zr ze ?_
   (simp only [Mem.zp,Mem.pb,Mem.pc])
   refine plan_field 231 _ 0 bk 0 ⟨bk,0,none⟩ zr zr zr ze (fun wx=>by go_simp) ?_
   (simp only [Mem.zp,Mem.pb,Mem.pc])
   refine plan_store_one 64 _ _ bk 0 (.slice a5 (M+1) c5) _ 231 zr zr zr zr ze ze zr infoSh9 R5.out (by simp) trivial ?_
   refine plan_nil ?_
   have E8:=zh (bk_add (v':=.slice a5 (M+1) c5) HV.out HE.out (by rw [←HM.out];exact HO.out) B2.out O2.out ((Below.refl _ w2).alloc (Nat.le_refl _) _) A5.out B5.out (by rw [←HM.out];exact O5.out) (R5.out.set 0 (.slice a5 (M+1) c5)) (fun k hk=>heap_setCell_other w5 ⟨bk,0,none⟩ k _ hk) (fun B a hB hle=>hB.setCell hle _))
   generalize w5.setCell ⟨bk,0,none⟩ (.slice a5 (M+1) c5)=w8 at *
   clear R5 A5 B5 O5 OW C2 C3 O2 B2 HO HE HROW C1 CL NE XL
   clear HV
   have S8:Hid (SlB G w8 (.slice a0 L c0) l):=zh (HV1.out.keep E8.out.2.size fun k hg hlt=>E8.out.2.block k hlt (HG.out k hg))
   have BX:Hid (Below x.heap.size x w1):=zh (HX.out.trans (HAL.out.mono HX.out.size))
   have BX8:Hid (Below x.heap.size x w8):=zh (E8.out.2.below BX.out.drew HF.out BX.out.size)
   have A8:Hid (At w8 w.heap.size Z 22):=zh (HAZ.out.drew.chg E8.out.2 fun hf=>Nat.lt_irrefl _ (FLT.out _ hf))
   have SLS:=zh (sls_lit1 S8.out.sl)
   have T8:=zh (HT.out.below (BX8.out.alloc BX8.out.size (.cells #[.slice a0 L c0] 63)) (Nat.le_refl _))
   have A9:=zh (A8.out.alloc (.cells #[.slice a0 L c0] 63))
   clear S8 BX BX8 A8
   go_wp2_with fail
   refine (SUM.out _ _ SLS.out T8.out).mono ?_
   rintro e w9 ⟨rfl,hb9⟩
   have A10:=zh (A9.out.below hb9 A9.out.lt)
   have B10:Hid (Below w8.heap.size w8 w9):=zh (((Below.refl _ w8).alloc (Nat.le_refl _) (.cells #[.slice a0 L c0] 63)).trans (hb9.mono (by simp)))
   clear hb9 SLS T8 A9
   go_wp2_with (refine wpList_store_all zr 22 _ _ zr zr w.heap.size G32 zr zr (by rw [GS.out];exact infoDg) Z _ A10.out (by rw [ZS.out,GS.out]) GO.out ?_)
   try simp only [Exit.inBlock,Exit.then]
   refine ret_row zr w.heap.size 22 G32 _ zr (A10.out.row G32) Tryz.underlying22 zr (by rw [GS.out];exact infoDg) ?_
   exact ⟨rfl,dig_end HAL.out FLT.out (by rw [HW1.out];simp) E8.out B10.out G32⟩
  ·refine plan_slice 64 63 1 _ #[.slice a2 L c2] zr zr zr Tryz.underlying64 (by kernel_rfl) trivial ?_
   (simp only [Mem.zp,Mem.pb,Mem.pc])
   refine plan_sole_cell 64 _ _ (.slice asx M caps) _ zr zr zr ze (by first | exact C1.out | exact C2.out | exact C3.out) Tryz.underlying64 zr trivial ?_
   (simp only [Mem.zp,Mem.pb,Mem.pc])
   refine plan_append_app _ _ 64 zr zr zr (.slice (some ⟨w2.heap.size,0,none⟩) 1 1) M 1 1 [.slice a2 L c2] (.slice none 0 0) 24 elemRS9 zr (by decide) ze OW.out ze (by exact rdR_new (e:=63) (C:=#[.slice a2 L c2])) (by simp [Value.oneCell']) (by omega) (by omega) (by omega) ?_
   intro v5 w5 ho5 ha5 hb5
   obtain ⟨a5,c5,rfl⟩:=rows_hd ho5
   have O5:=zh ho5;have A5:=zh ha5;have B5:=zh hb5
   have R5:Hid (At w5 bk #[.slice asx M caps] 231):=zh (at_appd (((HROW.out.below B2.out (HV.out.lt bk HV.out.box))).alloc _) A5.out NE.out)
   clear ho5 ha5 hb5
   refine ⟨trivial,?_⟩
   (simp only [Mem.zp,Mem.pb,Mem.pc])
   refine plan_nilcheck _ ⟨bk,0,none⟩ zr zr zr ze ?_
   (simp only [Mem.zp,Mem.pb,Mem.pc])
   refine plan_field 231 _ 0 bk 0 ⟨bk,0,none⟩ zr zr zr ze (fun wx=>by go_simp) ?_
   (simp only [Mem.zp,Mem.pb,Mem.pc])
   refine plan_store_one 64 _ _ bk 0 (.slice a5 (M+1) c5) _ 231 zr zr zr zr ze ze zr infoSh9 R5.out (by simp) trivial ?_
   refine plan_nil ?_
   have E8:=zh (bk_add (v':=.slice a5 (M+1) c5) HV.out HE.out (by rw [←HM.out];exact HO.out) B2.out O2.out ((Below.refl _ w2).alloc (Nat.le_refl _) _) A5.out B5.out (by rw [←HM.out];exact O5.out) (R5.out.set 0 (.slice a5 (M+1) c5)) (fun k hk=>heap_setCell_other w5 ⟨bk,0,none⟩ k _ hk) (fun B a hB hle=>hB.setCell hle _))
   generalize w5.setCell ⟨bk,0,none⟩ (.slice a5 (M+1) c5)=w8 at *
   clear R5 A5 B5 O5 OW C2 C3 O2 B2 HO HE HROW C1 CL NE XL
   clear HV
   have S8:Hid (SlB G w8 (.slice a0 L c0) l):=zh (HV1.out.keep E8.out.2.size fun k hg hlt=>E8.out.2.block k hlt (HG.out k hg))
   have BX:Hid (Below x.heap.size x w1):=zh (HX.out.trans (HAL.out.mono HX.out.size))
   have BX8:Hid (Below x.heap.size x w8):=zh (E8.out.2.below BX.out.drew HF.out BX.out.size)
   have A8:Hid (At w8 w.heap.size Z 22):=zh (HAZ.out.drew.chg E8.out.2 fun hf=>Nat.lt_irrefl _ (FLT.out _ hf))
   have SLS:=zh (sls_lit1 S8.out.sl)
   have T8:=zh (HT.out.below (BX8.out.alloc BX8.out.size (.cells #[.slice a0 L c0] 63)) (Nat.le_refl _))
   have A9:=zh (A8.out.alloc (.cells #[.slice a0 L c0] 63))
   clear S8 BX BX8 A8
   go_wp2_with fail
   refine (SUM.out _ _ SLS.out T8.out).mono ?_
   rintro e w9 ⟨rfl,hb9⟩
   have A10:=zh (A9.out.below hb9 A9.out.lt)
   have B10:Hid (Below w8.heap.size w8 w9):=zh (((Below.refl _ w8).alloc (Nat.le_refl _) (.cells #[.slice a0 L c0] 63)).trans (hb9.mono (by simp)))
   clear hb9 SLS T8 A9
   go_wp2_with (refine wpList_store_all zr 22 _ _ zr zr w.heap.size G32 zr zr (by rw [GS.out];exact infoDg) Z _ A10.out (by rw [ZS.out,GS.out]) GO.out ?_)
   try simp only [Exit.inBlock,Exit.then]
   refine ret_row zr w.heap.size 22 G32 _ zr (A10.out.row G32) Tryz.underlying22 zr (by rw [GS.out];exact infoDg) ?_
   exact ⟨rfl,dig_end HAL.out FLT.out (by rw [HW1.out];simp) E8.out B10.out G32⟩
theorem pdig_any {F G:Foot} {bp:Value} {ts:List (Lb8)} (l:Lb8) (v:Value) (w x:World) (hr:BkO F bp w ts) (hn:ts.length < 100000) (hv:SlB G w v l) (hG:∀ k,G k→¬ F k) (hp:l.length≤1000000) (hT:Tabs x) (hxw:Below x.heap.size x w) (hF:∀ k,F k→x.heap.size≤k) :
 Calls Tryz.prog 128 #[bp,v] w fun e w'=>e=.returned (.agg (u8s (digestOf l)).toArray)∧BkEnd F bp w (ts++[l]) w':=by
 rcases hr with ⟨rfl,hnF⟩ | ⟨bk,rfl,hb⟩
 ·refine (pdigN_any l v w hv.sl (by omega) (hT.below hxw (Nat.le_refl _))).mono ?_
  rintro e w' ⟨rfl,hb⟩
  exact ⟨rfl,⟨F,.inl ⟨rfl,hnF⟩,fun k hk=>.inl hk⟩,Chg.of_below hb⟩
 ·refine (pdigB_any l v w x hb hn hv hG hp hT hxw hF).mono ?_
  rintro e w' ⟨rfl,⟨F',h1,h2⟩,hc⟩
  exact ⟨rfl,⟨F',.inr ⟨bk,rfl,h1⟩,h2⟩,hc⟩
def HideEnd (F:Foot) (bp:Value) (w:World) (l:Lb8) (r:RefV) (n:Int) (ts:List (Lb8)) (e:Ending) (w':World):Prop:=
 ∃ v F',e=.returned (.tuple #[v,.agg (refC r),.int .i64 n])∧SlB (fun k=>w.heap.size≤k∧¬ F' k) w' v l∧BkO F' bp w' ts∧(∀ k,F' k→F k∨w.heap.size≤k)∧Chg F w w'
theorem hide_end {F:Foot} {bp v3:Value} {w w3 w4:World} {g:Nat} {ts:List (Lb8)} {L:Lb8} (hFl:∀ k,F k→k < w.heap.size) (b3:Below w.heap.size w w3) (hg:w.heap.size≤g) (hg3:g < w3.heap.size) (hs:SlB (fun k=>g < k) w3 v3 L) (hk:BkEnd F bp w3 ts w4) (M:Array Value) :
 ∃ F',SlB (fun k=>w.heap.size≤k∧¬ F' k) (w4.setRow g M) v3 L∧BkO F' bp (w4.setRow g M) ts∧(∀ k,F' k→F k∨w.heap.size≤k)∧Chg F w (w4.setRow g M):=by
 obtain ⟨⟨F',h1,h2⟩,hc⟩:=hk
 have hz:=b3.size
 refine ⟨F',?_,h1.keep (by simp) fun k hk _=>setRow_other w4 _ k M fun e=>?_,fun k hk=>?_,?_⟩
 ·have s3:SlB (fun k=>g < k∧k < w3.heap.size) w3 v3 L:=hs.mono fun k hk hlt=>⟨hk,hlt⟩
  have s4:SlB (fun k=>g < k∧k < w3.heap.size) w4 v3 L:=s3.keep hc.size fun k hk hlt=>hc.block k hlt fun hf=>by have:=hFl k hf;omega
  have s5:SlB (fun k=>g < k∧k < w3.heap.size) (w4.setRow g M) v3 L:=s4.keep (by simp) fun k hk _=>setRow_other w4 _ k M (by omega)
  refine s5.mono fun k hk _=>⟨by omega,fun hf=>?_⟩
  rcases h2 k hf with h | h
  ·have:=hFl k h;omega
  ·omega
 ·subst e
  rcases h2 k hk with h | h
  ·have:=hFl k h;omega
  ·omega
 ·rcases h2 k hk with h | h
  ·exact .inl h
  ·exact .inr (by omega)
 ·exact ((Chg.of_below b3).trans (F1:=F) hc fun x hx=>.inl hx).trans (F1:=fun k=>k=g) ⟨rfl,rfl,rfl,by simp,fun k _ hn=>setRow_other w4 _ k M hn⟩ fun x hx=>.inr (by omega)
theorem buildPf3 (p:Int) (e:BitVec 32) (dg:Lb8) (h:dg.length=32) (w:World):(Instr.build 46 #[(0,.int .i64 p),(1,.int .u32 (V e)),(2,.agg (u8s dg).toArray)]).run Tryz.prog w=.ok (.agg (refC ⟨p,e,dg⟩)) w:=by
 match dg,h with
 | [a0,a1,a2,a3,a4,a5,a6,a7,a8,a9,a10,a11,a12,a13,a14,a15,a16,a17,a18,a19,a20,a21,a22,a23,a24,a25,a26,a27,a28,a29,a30,a31],_=>exact run_build w _ _ _ (by kernel_rfl)
theorem phide_any {F:Foot} {bp:Value} {ts:List (Lb8)} (key:Lb8) (lk:key.length=32) (ep:BitVec 32) (place block:Int) (hbk:block≤9223372036854775807) (page:Lb8) (v:Value) (w x:World) (hr:BkO F bp w ts) (hn:ts.length < 100000) (hv:Sl w v page) (hp:page.length≤1000000) (hT:Tabs x) (hC9:CTabs x) (hxw:Below x.heap.size x w) (hF:∀ k,F k→x.heap.size≤k) :
 Calls Tryz.prog 100 #[bp,.agg (u8s key).toArray,.int .u32 (V ep),.int .i64 place,.int .i64 block,v] w (HideEnd F bp w (hideR key ep place block page).1 (hideR key ep place block page).2.1 (hideR key ep place block page).2.2 (if (hideR key ep place block page).2.2=0 then ts++[(hideR key ep place block page).1] else ts)):=by
 have sl:=fun wx (h:Below w.heap.size w wx)=>pseal_any key lk ep block hbk page v wx (hv.below h) (by omega) (hC9.below (hxw.trans (h.mono hxw.size)) (Nat.le_refl _))
 have pl:=fun wx=>pisPlace_any place wx
 have flt:=hr.lt
 obtain ⟨C,hC⟩:∃ C,C=(u8s key).toArray:=⟨_,rfl⟩
 have cs:C.size=32:=by rw [hC];simp [u8s_length,lk]
 rw [←hC] at sl ⊢
 obtain ⟨Z,hZ⟩:∃ Z,Z=refC zref:=⟨_,rfl⟩
 have zs:Z.size=34:=by rw [hZ];exact refC_size zref_wf
 have zo:Z.all (·.oneCell')=true:=by rw [hZ];exact refC_one _
 have hx:∀ w,(zeroValue 46).run Tryz.prog w=.ok (.agg Z) w:=by rw [hZ];exact zeroRfP
 have bn:∀ w,(Instr.build 46 #[]).run Tryz.prog w=.ok (.agg Z) w:=by rw [hZ];exact buildPf0
 have ak:=(at_new w C 22).alloc (.cells Z 46)
 have az:At ((w.alloc (.cells C 22)).alloc (.cells Z 46)) (w.heap.size+1) Z 46:=by
  have h:=at_new (w.alloc (.cells C 22)) Z 46
  simpa using h
 have bz:Below w.heap.size w ((w.alloc (.cells C 22)).alloc (.cells Z 46)):=((Below.refl _ _).alloc (Nat.le_refl _) _).alloc (by simp) _
 have wz:((w.alloc (.cells C 22)).alloc (.cells Z 46)).heap.size=w.heap.size+2:=by simp
 have BAD:Hid (∀ w':World,Below w.heap.size w w'→HideEnd F bp w [] zref 1 ts (.returned (.tuple #[.slice none 0 0,.agg Z,.int .i64 1])) w'):=zh fun w' hb=>⟨_,F,by rw [hZ],slB_nil _ _,hr.below hb,fun k hk=>.inl hk,Chg.of_below hb⟩
 by_cases hpl:place < 0∨1 < place
 ·have e1:hideR key ep place block page=([],zref,1):=by simp [hideR,hpl]
  rw [e1]
  have e2:decide (place < 0∨1 < place)=true:=by simp [hpl]
  rw [e2] at pl
  have PL:=zh pl;have ZS:=zh zs;have ZO:=zh zo;have BN:=zh bn;have AZ:=zh az;have BZ:=zh bz
  clear sl pl cs zs zo bn ak az bz wz hC hZ hpl e1 e2 hr hn hv hp hT hC9 hxw hF lk flt hbk
  show Calls _ _ _ _ (HideEnd F bp w [] zref 1 (if (1:Int)=0 then _ else ts))
  rw [if_neg (by decide)]
  go_enter Tryz.func100,Tryz.ntmps100
  go_upto_region 1 with fail
  clear hx
  generalize (w.alloc (.cells C 22)).alloc (.cells Z 46)=w1 at *
  go_wp2_with fail
  refine (PL.out _).mono ?_
  rintro e w2 ⟨rfl,hb2⟩
  have AZ2:=zh (AZ.out.below hb2 AZ.out.lt);have B2:=zh (BZ.out.trans (hb2.mono BZ.out.size))
  clear hb2 AZ BZ PL
  go_wp2_with (first
   | (refine Mem.wpList_build zr 46 _ #[] (.agg Z) zr (by simp) BN.out ?_)
   | (refine wpList_store_all zr 46 _ _ zr zr (w.heap.size+1) Z zr zr (by rw [ZS.out];exact infoRfP) Z 46 AZ2.out zr ZO.out ?_))
  try simp only [Exit.inBlock,Exit.then]
  refine ret_tmp_row_tmp zr (w.heap.size+1) 46 Z _ (.slice none 0 0) (.int .i64 1) zr zr zr (AZ2.out.row Z) Tryz.underlying46 zr (by rw [ZS.out];exact infoRfP) ?_
  exact BAD.out _ (below_row B2.out (Nat.le_succ _) Z)
 ·have e2:decide (place < 0∨1 < place)=false:=by simp [hpl]
  rw [e2] at pl
  by_cases hb:sealBad block page=true
  ·have e1:hideR key ep place block page=([],zref,1):=by simp [hideR,hb]
   have e3:sealR key ep block page=([],1):=by simp [sealR,hb]
   rw [e3] at sl
   rw [e1]
   have PL:=zh pl;have SL:=zh sl;have CS:=zh cs;have ZS:=zh zs;have ZO:=zh zo;have BN:=zh bn;have AK:=zh ak;have AZ:=zh az;have BZ:=zh bz
   clear sl pl cs zs zo bn ak az bz wz hC hZ hpl e1 e2 e3 hb hr hn hv hp hT hC9 hxw hF lk flt hbk
   show Calls _ _ _ _ (HideEnd F bp w [] zref 1 (if (1:Int)=0 then _ else ts))
   rw [if_neg (by decide)]
   go_enter Tryz.func100,Tryz.ntmps100
   go_upto_region 1 with fail
   clear hx
   generalize (w.alloc (.cells C 22)).alloc (.cells Z 46)=w1 at *
   go_wp2_with fail
   refine (PL.out _).mono ?_
   rintro e w2 ⟨rfl,hb2⟩
   have AK2:=zh (AK.out.below hb2 AK.out.lt);have AZ2:=zh (AZ.out.below hb2 AZ.out.lt);have B2:=zh (BZ.out.trans (hb2.mono BZ.out.size))
   clear hb2 AZ AK BZ PL
   go_wp2_with (refine wpList_load_all zr 22 _ zr w.heap.size zr _ Tryz.underlying22 zr C _ AK2.out (by rw [CS.out];exact infoDg) ?_)
   refine (SL.out w2 B2.out).mono ?_
   rintro e w3 ⟨v3,rfl,_,hb3⟩
   have AZ3:=zh (AZ2.out.below hb3 AZ2.out.lt);have B3:=zh (B2.out.trans (hb3.mono B2.out.size))
   clear hb3 AZ2 AK2 B2 SL
   go_wp2_with (first
    | (refine Mem.wpList_build zr 46 _ #[] (.agg Z) zr (by simp) BN.out ?_)
    | (refine wpList_store_all zr 46 _ _ zr zr (w.heap.size+1) Z zr zr (by rw [ZS.out];exact infoRfP) Z 46 AZ3.out zr ZO.out ?_))
   try simp only [Exit.inBlock,Exit.then]
   refine ret_tmp_row_tmp zr (w.heap.size+1) 46 Z _ (.slice none 0 0) (.int .i64 1) zr zr zr (AZ3.out.row Z) Tryz.underlying46 zr (by rw [ZS.out];exact infoRfP) ?_
   exact BAD.out _ (below_row B3.out (Nat.le_succ _) Z)
  ·clear BAD bn
   have e3:sealR key ep block page=(sealL key ep block page,0):=by simp [sealR,hb]
   rw [e3] at sl
   obtain ⟨L,hL⟩:∃ L,L=sealL key ep block page:=⟨_,rfl⟩
   rw [←hL] at sl
   have e1:hideR key ep place block page=(L,⟨place,ep,digestOf L⟩,0):=by simp [hideR,hb,hpl,hL]
   rw [e1]
   have hln:L.length=256:=by rw [hL,sealL_length];simp [sealBad] at hb;omega
   have dg:=fun (wx:World) (vx:Value) (h:Below w.heap.size w wx) (hs:SlB (fun k=>w.heap.size≤k) wx vx L)=>pdig_any L vx wx x (hr.below h) hn hs (fun k hk hf=>by have:=flt k hf;omega) (by omega) hT (hxw.trans (h.mono hxw.size)) hF
   obtain ⟨D,hD⟩:∃ D,D=(u8s (digestOf L)).toArray:=⟨_,rfl⟩
   have b3:∀ wx,(Instr.build 46 #[(0,.int .i64 place),(1,.int .u32 (V ep)),(2,.agg D)]).run Tryz.prog wx=.ok (.agg (refC ⟨place,ep,digestOf L⟩)) wx:=fun wx=>by rw [hD];exact buildPf3 place ep (digestOf L) (digestOf_length _) wx
   rw [←hD] at dg
   obtain ⟨M,hM⟩:∃ M,M=refC ⟨place,ep,digestOf L⟩:=⟨_,rfl⟩
   have ms:M.size=34:=by rw [hM];exact refC_size (wf_dig place ep L (by omega) (by omega))
   have mo:M.all (·.oneCell')=true:=by rw [hM];exact refC_one _
   rw [←hM] at b3
   have PL:=zh pl;have SL:=zh sl;have DG:=zh dg;have B3:=zh b3;have HM:=zh hM;have MS:=zh ms;have MO:=zh mo;have CS:=zh cs;have ZS:=zh zs;have AK:=zh ak;have AZ:=zh az;have BZ:=zh bz;have WZ:=zh wz;have FLT:=zh flt;have LN:=zh hln
   clear sl pl dg b3 hM ms mo cs zs zo ak az bz wz hC hZ hpl e1 e2 e3 hb hr hn hv hp hT hC9 hxw hF lk flt hD hln hbk hL
   show Calls _ _ _ _ (HideEnd F bp w L ⟨place,ep,digestOf L⟩ 0 (if (0:Int)=0 then ts++[L] else ts))
   rw [if_pos rfl]
   go_enter Tryz.func100,Tryz.ntmps100
   go_upto_region 1 with fail
   clear hx
   generalize (w.alloc (.cells C 22)).alloc (.cells Z 46)=w1 at *
   go_wp2_with fail
   refine (PL.out _).mono ?_
   rintro e w2 ⟨rfl,hb2⟩
   have AK2:=zh (AK.out.below hb2 AK.out.lt);have AZ2:=zh (AZ.out.below hb2 AZ.out.lt);have B2:=zh (BZ.out.trans (hb2.mono BZ.out.size));have W2:Hid (w.heap.size+2≤w2.heap.size):=zh (by rw [←WZ.out];exact hb2.size)
   clear hb2 AZ AK BZ PL WZ
   go_wp2_with (refine wpList_load_all zr 22 _ zr w.heap.size zr _ Tryz.underlying22 zr C _ AK2.out (by rw [CS.out];exact infoDg) ?_)
   refine (SL.out w2 B2.out).mono ?_
   rintro e w3 ⟨v3,rfl,hs3,hb3⟩
   have AZ3:=zh (AZ2.out.below hb3 AZ2.out.lt);have B4:=zh (B2.out.trans (hb3.mono B2.out.size));have S3:Hid (SlB (fun k=>w.heap.size+1 < k) w3 v3 L):=zh (hs3.mono fun k hk _=>by have:=W2.out;omega);have W3:Hid (w.heap.size+2≤w3.heap.size):=zh (Nat.le_trans W2.out hb3.size)
   clear hb3 hs3 AZ2 AK2 B2 SL W2
   go_wp2_with fail
   refine (DG.out w3 v3 B4.out (S3.out.mono fun k hk _=>by omega)).mono ?_
   rintro e w4 ⟨rfl,hk4⟩
   have AZ4:=zh (AZ3.out.chg hk4.2 fun hf=>by have:=FLT.out _ hf;omega)
   have HE:=zh (hide_end FLT.out B4.out (Nat.le_succ _) (by have:=W3.out;omega) S3.out hk4 M)
   clear hk4 AZ3 B4 S3 W3 DG
   go_wp2_with (first
    | (refine Mem.wpList_build zr 46 _ #[(0,.int .i64 place),(1,.int .u32 (V ep)),(2,.agg D)] (.agg M) zr (by simp [Act.eval]) B3.out ?_)
    | (refine wpList_store_all zr 46 _ _ zr zr (w.heap.size+1) M zr zr (by rw [MS.out];exact infoRfP) Z 46 AZ4.out (by rw [ZS.out,MS.out]) MO.out ?_))
   try simp only [Exit.inBlock,Exit.then]
   refine ret_tmp_row_tmp zr (w.heap.size+1) 46 M _ v3 (.int .i64 0) zr zr zr (AZ4.out.row M) Tryz.underlying46 zr (by rw [MS.out];exact infoRfP) ?_
   obtain ⟨F',h1,h2,h3,h4⟩:=HE.out
   exact ⟨_,F',by rw [HM.out],h1,h2,h3,h4⟩
end Sha
end Go.Proofs.YtplmfmpbkjnbaaaGreatDoor
