/- The document's digest: its walk; it is the program's. -/
import Derived.Test.YtplmfmpbkjnbaaaGreatDoorBQ26
import Derived.Test.YtplmfmpbkjnbaaaGreatDoorBQ20
set_option maxRecDepth 100000
set_option maxHeartbeats 1000000
namespace Go.Proofs.YtplmfmpbkjnbaaaGreatDoor
namespace Sha
open Go.RowKit Mem
theorem OwnV.wl' {w:World} {B:Nat} {e:TypeId} {v:Value} {l:List (BitVec 32)} (h:OwnV w B e v (u32s l)) (hl:0 < l.length):Wl w v l:=by
 obtain ⟨a,c,rfl,_,hr⟩:=h.open
 obtain ⟨g,rfl,_,hg,hc⟩:=hr (by intro e;rw [←u32s_length,e] at hl;simp at hl)
 exact ⟨g,c,by rw [u32s_length],hg,fun i hi=>hc i _ (u32s_get l i hi)⟩
theorem Wl.below {w w':World} {v:Value} {l:List (BitVec 32)} (h:Wl w v l) (hb:Below w.heap.size w w'):Wl w' v l:=by
 obtain ⟨g,c,rfl,hg,hc⟩:=h
 exact ⟨g,c,rfl,Nat.lt_of_lt_of_le hg hb.size,fun i hi=>(hb.cell (p:=⟨g,i,none⟩) hg).trans (hc i hi)⟩
theorem comps_length (T:Lb8):∀ j,(comps IVl T j).length=8
 | 0=>by show IVl.length=8;decide
 | j+1=>by rw [comps];exact comp_len _ _ (comps_length T j)
def dByte (l:List (BitVec 32)) (i:Nat):BitVec 8:=wb (l.getD (i / 4) 0) (24 - 8*(i % 4))
def oRow (l:List (BitVec 32)) (i:Nat):Lb8:=(List.range i).map (dByte l)++List.replicate (32 - i) 0
theorem oRow_all (l:List (BitVec 32)):oRow l 32=dRow l 8:=by kernel_rfl
theorem oRow_length (l:List (BitVec 32)) (i:Nat) (h:i≤32):(oRow l i).length=32:=by simp [oRow];omega
theorem oRow_set (l:List (BitVec 32)) (i:Nat) (h:i < 32):(oRow l i).set i (dByte l i)=oRow l (i+1):=by
 unfold oRow
 rw [List.set_append_right _ _ (by simp),show 32 - i=(32 - (i+1))+1 by omega,List.replicate_succ,List.range_succ]
 simp
theorem wb_pow (x:BitVec 32) (k:Nat):V x / 2 ^ k % 256=((wb x k).toNat:Int):=wb_val x k _ (by simp)
def BRel (w2:World) (T:Lb8) (m:Nat) (vs i:Value) (wr:World):Prop:=
 ∃ j:Nat,j≤m∧i=.int .i64 (64*(j:Int))∧Wl wr vs (comps IVl T j)∧Below w2.heap.size w2 wr
theorem rsum_any (b:Lb8) (v:Value) (w:World) (hb:Sl w v b) (lb:b.length≤1099511627776) :
 Calls Tryz.prog 106 #[v] w fun e w'=>e=.returned (.agg (dgOf b))∧Below w.heap.size w w':=by
 have ALL:=zh (fun w=>all_any w)
 have PAD:=zh (fun wx hx=>pad_ref b v wx (hb.below hx) lb)
 obtain ⟨m,hm⟩:=padded_mod b.length
 obtain ⟨T,hT⟩:∃ T,T=b++padBytes b.length:=⟨_,rfl⟩
 have hTl:T.length=64*m:=by rw [hT,List.length_append,hm]
 have hdg:dgOf b=(u8s (oRow (comps IVl T m) 32)).toArray:=by rw [oRow_all,dgOf,hT,digest_comps b m (by rw [←hT,hTl])]
 rw [hdg]
 rw [←hT] at PAD
 have TL:=zh hTl
 have hm2:64*m≤1099511628000:=by
  have:=padBytes_length b.length
  have h2:=padQ_bd (b.length % 64) (Nat.mod_lt _ (by decide))
  rw [this] at hm
  omega
 clear hdg hT hTl hm lb hb
 go_enter Tryz.func106,Tryz.ntmps106
 go_wp2_with fail
 generalize hw0:w.alloc _=w0
 have at0:At w0 w.heap.size Z32 22:=by rw [←hw0];exact at_new w Z32 _
 have bl0:Below w.heap.size w w0:=by rw [←hw0];exact (Below.refl _ _).alloc (Nat.le_refl _) _
 have A0:=zh at0;have BL0:=zh bl0
 clear at0 bl0 hw0
 refine (ALL.out _).mono ?_
 rintro e w1 ⟨vk,vf,rfl,hok,hof,hb1⟩
 have WK:=zh (OwnV.wl' hok (by decide));have WF:=zh (OwnV.wl' hof (by decide));have BL1:=zh (BL0.out.trans (hb1.mono BL0.out.size));have A1:=zh (A0.out.below hb1 A0.out.lt)
 clear hok hof hb1
 go_wp2_with fail
 refine (PAD.out _ BL1.out).mono ?_
 rintro e w2 ⟨vp,rfl,hop,hb2⟩
 obtain ⟨ap,cp,rfl,hcp,hpc⟩:=hop.open
 have WK2:=zh (Wl.below WK.out hb2);have WF2:=zh (Wl.below WF.out hb2);have BL2:=zh (BL1.out.trans (hb2.mono BL1.out.size));have A2:=zh (A1.out.below hb2 A1.out.lt)
 rw [TL.out] at hcp ⊢
 have PC:=zh hpc;have CP:=zh hcp
 clear WK WF A1 BL1 BL0 A0 hb2 hop hpc hcp ALL PAD
 go_wp2_with fail
 go_loopw [4,6] (fun v i wr=>BRel w2 T m v i wr) (fun _ i _=>(64*(m:Int) - intOf i).toNat)
 case atStart=>exact ⟨0,by omega,rfl,WF2.out,Below.refl _ _⟩
 case round=>
  obtain ⟨j,hj,rfl,hwl,hbr⟩:=hrel
  by_cases hlt:j < m
  ·obtain ⟨gp,rfl,_,hgp,hpcell⟩:=PC.out (by intro e;have:=TL.out;rw [e] at this;simp at this;omega)
   have hs1:64*j < cp:=by have:=CP.out;omega
   have hs2:64*j+64≤cp:=by have:=CP.out;omega
   have hlt':64*(j:Int) < 64*(m:Int):=by omega
   have hsl:Sl wr (.slice (some ⟨gp,64*j,none⟩) 64 (cp - 64*j)) ((T.drop (64*j)).take 64):=by
    have hl:((T.drop (64*j)).take 64).length=64:=by rw [List.length_take,List.length_drop,TL.out];omega
    refine ⟨_,cp - 64*j,by rw [hl],by rw [hl];omega,fun _=>⟨gp,64*j,rfl,Nat.lt_of_lt_of_le hgp hbr.size,fun i hi=>?_⟩⟩
    rw [hl] at hi
    rw [hbr.cell (p:=⟨gp,64*j+i,none⟩) hgp,hpcell (64*j+i) (by rw [TL.out];omega)]
    simp [List.getD_eq_getElem?_getD,hi]
   have hst:=step_ref (comps IVl T j) ((T.drop (64*j)).take 64) vk u4 _ wr (Wl.below WK2.out hbr) hwl hsl (comps_length T j) (by rw [List.length_take,List.length_drop,TL.out];omega)
   have ST:=zh hst;have BR:=zh hbr;have S1:=zh hs1;have S2:=zh hs2
   clear hst hbr hs1 hs2 hsl hwl hpcell hgp
   go_wp2_with (refine wpList_slice_mid zr _ _ _ _ zr _ Tryz.underlying63 (by kernel_rfl) gp 0 (64*m) cp (64*j) (64*j+64) zr (by first | rfl | (go_num;done)) (by first | rfl | (go_num;done)) (by omega) S2.out S1.out ?_)
   refine ST.out.mono ?_
   rintro e w' ⟨v',rfl,ho',hb'⟩
   have OW':=zh (OwnV.wl' ho' (by rw [comp_len _ _ (comps_length T j)];decide));have BR':=zh (BR.out.trans (hb'.mono BR.out.size))
   clear ho' hb'
   go_wp2_with fail
   go_roundw
   case rel=>exact ⟨j+1,by omega,by first | rfl | (go_num;done) | (simp;omega),OW'.out,BR'.out⟩
   case measure=>simp [intOf];omega
  ·have hjm:j=m:=by omega
   have hge:¬ 64*(j:Int) < 64*(m:Int):=by omega
   rw [hjm] at hwl
   obtain ⟨gs,cs,rfl,hgs,hsc⟩:=hwl
   rw [comps_length] at hsc ⊢
   have GS:=zh hgs;have SC:=zh hsc;have BR:=zh hbr
   clear hgs hsc hbr hjm PC WK2 WF2 CP
   go_wp2_with fail
   have hrow0:(u8s (oRow (comps IVl T m) 0)).toArray=Z32:=by kernel_rfl
   generalize hwa:wr.alloc _=wa
   have at0:At wa wr.heap.size (u8s (oRow (comps IVl T m) 0)).toArray 22:=by rw [←hwa,hrow0];exact at_new wr Z32 _
   have bl0:Below wr.heap.size wr wa:=by rw [←hwa];exact (Below.refl _ _).alloc (Nat.le_refl _) _
   obtain ⟨L,hL⟩:∃ L,L=comps IVl T m:=⟨_,rfl⟩
   rw [←hL] at at0 SC
   have HL:=zh hL;have AA:=zh at0;have BA:=zh bl0
   clear hwa at0 bl0 hrow0 hL
   obtain ⟨wq,rfl⟩:∃ wq:World,wq=wr:=⟨_,rfl⟩
   go_loopw [8] (fun i wr=>∃ k:Nat,k≤32∧i=.int .i64 k∧At wr wq.heap.size (u8s (oRow L k)).toArray 22∧Below wq.heap.size wq wr) (fun i _=>32 - (intOf i).toNat)
   case atStart=>exact ⟨0,by omega,rfl,AA.out,BA.out⟩
   case round=>
    clear AA BA
    obtain ⟨k,hk,rfl,hat,hbx⟩:=hrel
    by_cases hlt2:k < 32
    ·obtain ⟨q,hq⟩:∃ q:Nat,q=k / 4:=⟨_,rfl⟩
     obtain ⟨r,hr⟩:∃ q:Nat,q=k % 4:=⟨_,rfl⟩
     have hq1:(k:Int).tdiv 4=(q:Int):=by rw [Int.tdiv_eq_ediv_of_nonneg (by omega)];omega
     have hr1:(k:Int).tmod 4=(r:Int):=by rw [Int.tmod_eq_emod_of_nonneg (by omega)];omega
     have hq8:q < 8:=by omega
     have hr4:r < 4:=by omega
     obtain ⟨x,hx⟩:∃ x,x=L.getD q 0:=⟨_,rfl⟩
     have hcell:wr.cell? ⟨gs,q,none⟩=some (.int .u32 (V x)):=by rw [hbx.cell (p:=⟨gs,q,none⟩) GS.out,hx];exact SC.out q hq8
     have hdb:dByte L k=wb x (24 - 8*r):=by rw [dByte,hx,hq,hr]
     have DB:=zh hdb;have AT:=zh hat;have BX:=zh hbx
     have hlt':(k:Int) < 32:=by omega
     have hv0:=V_lo x
     clear hdb hat hbx hx hq hr
     go_wp2_with (refine Mem.wpList_store_one zr 5 _ _ zr zr wq.heap.size k (.int .u8 ((wb x (24 - 8*r)).toNat:Int)) zr (by exact congrArg (Value.int .u8) (wb_pow x _)) zr infoB _ _ AT.out (by simp [u8s,oRow_length L k hk];omega) ?_;intro w' hat' ho' hb';have AT':=zh hat';have BX':=zh (hb' _ _ BX.out (Nat.le_refl _));clear hat' ho' hb')
     go_roundw
     case rel=>exact ⟨k+1,by omega,by go_num,by rw [←oRow_set L k hlt2,DB.out,←u8s_set];exact AT'.out,BX'.out⟩
     case measure=>simp [intOf];omega
    ·have hk32:k=32:=by omega
     rw [hk32] at hat
     obtain ⟨G,hG⟩:∃ G,G=(u8s (oRow L 32)).toArray:=⟨_,rfl⟩
     rw [←hG] at hat
     have hGs:G.size=32:=by rw [hG];simp [u8s,oRow_length]
     have hGo:G.all (·.oneCell')=true:=by rw [hG];exact u8s_one _
     have hge2:¬ (k:Int) < 32:=by omega
     have BX:=zh ((BR.out.trans (hbx.mono BR.out.size)))
     have hA:=(A2.out.below BX.out A2.out.lt)
     have HG:=zh hG;have AT:=zh hat;have GZ:=zh hGs;have GO:=zh hGo;have A3:=zh hA
     clear hG hat hGs hGo hbx hA hk32 hlt2 hk
     go_wp2_with (first | (refine wpList_load_all zr 22 _ zr wq.heap.size zr _ Tryz.underlying22 zr G _ AT.out (by rw [GZ.out];exact info32) ?_) | (refine wpList_store_all zr 22 _ _ zr zr w.heap.size G zr zr (by rw [GZ.out];exact info32) _ _ A3.out (by rw [GZ.out];simp [Z32,u8s]) GO.out ?_))
     try simp only [Exit.inBlock,Exit.then]
     refine ret_row zr w.heap.size 22 G _ zr (A3.out.row G) Tryz.underlying22 zr (by rw [GZ.out];exact info32) ?_
     exact ⟨by rw [HG.out,HL.out],(BL2.out.trans (BX.out.mono BL2.out.size)).trans ⟨rfl,rfl,rfl,by simp,fun k hk=>setRow_other _ _ k G (by omega)⟩⟩
end Sha
end Go.Proofs.YtplmfmpbkjnbaaaGreatDoor
