/- The document's whole square roots, and its constants and first state reckoned at once: their walks. The document's padded text: its walk; it is the text with the padding that the program lays behind it. -/
import Derived.Test.YtplmfmpbkjnbaaaGreatDoorBQ17
import Derived.Test.YtplmfmpbkjnbaaaGreatDoorBQ00
import Derived.Test.YtplmfmpbkjnbaaaGreatDoorBQ20
set_option maxRecDepth 100000
set_option maxHeartbeats 1000000
namespace Go.Proofs.YtplmfmpbkjnbaaaGreatDoor
namespace Sha
open Go.RowKit Mem
def sqOk (p x:Int):Bool:=decide (tHi x x < p) || (tHi x x == p && tLo x x == 0)
def sqGo (p:Int):Nat→Int→Int
 | 0,r=>r
 | k+1,r=>sqGo p k (if sqOk p (w64 (r+w64 (2 ^ k))) then w64 (r+w64 (2 ^ k)) else r)
theorem squares:(List.range 8).all (fun t=>sqGo (((pr 312).getD t 0:Nat):Int) 36 0 % (4294967296:Int) == V (IVl.getD t 0))=true:=by decide +kernel
theorem square_at (t:Nat) (h:t < 8):sqGo (((pr 312).getD t 0:Nat):Int) 36 0 % (4294967296:Int)=V (IVl.getD t 0):=by
 have:=List.all_eq_true.1 squares t (List.mem_range.2 h)
 simpa using this
theorem square_any (p:Int) (w:World) (_hp:0≤p) :
 Calls Tryz.prog 156 #[.int .u64 p] w fun e w'=>e=.returned (.int .u32 (sqGo p 36 0 % 4294967296))∧w=w':=by
 go_enter Tryz.func156,Tryz.ntmps156
 go_wp2_with fail
 go_loop [3,4] (fun v3 v4=>∃ (m:Nat) (r:Int),m≤36∧v4=.int .i64 ((m:Int) - 1)∧v3=.int .u64 r∧0≤r∧sqGo p m r=sqGo p 36 0) (fun _ v4=>(intOf v4+1).toNat)
 case atStart=>exact ⟨36,0,by omega,rfl,rfl,by omega,rfl⟩
 case round=>
  obtain ⟨m,r,hm,rfl,rfl,hr,hgo⟩:=hrel
  have HGO:=zh hgo;clear hgo
  cases m with
  | zero=>
   have h36:sqGo p 36 0=r:=by rw [←HGO.out];rfl
   have H36:=zh h36;clear h36
   go_wp2
   go_ret
   refine ⟨?_,rfl⟩
   rw [H36.out];rfl
  | succ k=>
   rw [show (((k+1:Nat):Int) - 1)=(k:Int) from by omega]
   obtain ⟨x,hx⟩:∃ x,x=w64 (r+w64 (2 ^ k)):=⟨_,rfl⟩
   have hx0:0≤x:=by rw [hx];exact w64_nonneg _
   have hxr:IntKind.u64.wrap (r+IntKind.u64.wrap (2 ^ k))=x:=hx.symm
   obtain ⟨hi,hhi⟩:∃ q,q=tHi x x:=⟨_,rfl⟩
   obtain ⟨lo,hlo⟩:∃ q,q=tLo x x:=⟨_,rfl⟩
   have T1:Hid (∀ w,Calls Tryz.prog 177 #[.int .u64 x,.int .u64 x] w fun e w'=>e=.returned (.tuple #[.int .u64 hi,.int .u64 lo])∧w=w'):=fun w=>by rw [hhi,hlo];exact times_any x x w hx0 hx0
   have hok:sqOk p x=(decide (hi < p) || (hi == p && lo == 0)):=by rw [hhi,hlo];rfl
   have hstep:sqGo p k (if sqOk p x then x else r)=sqGo p 36 0:=by rw [←HGO.out,hx];rfl
   have HOK:=zh hok;have HST:=zh hstep
   clear hx hhi hlo hok hstep
   cases hA:decide (hi < p)
   case true=>
    have hv:sqOk p x=true:=by rw [HOK.out,hA];rfl
    have HVV:=zh hv;clear hv
    go_wp2_with fail
    refine (T1.out _).mono ?_
    rintro e w1 ⟨rfl,rfl⟩
    go_wp2_with fail
    go_round
    case rel=>exact ⟨k,x,by omega,by go_num,rfl,by assumption,by have h:=HST.out;rw [HVV.out] at h;exact h⟩
    case measure=>simp [intOf] <;> omega
   case false=>
    cases hB:(hi == p)
    case false=>
     have hv:sqOk p x=false:=by rw [HOK.out,hA,hB];rfl
     have HVV:=zh hv;clear hv
     go_wp2_with fail
     refine (T1.out _).mono ?_
     rintro e w1 ⟨rfl,rfl⟩
     go_wp2_with fail
     go_round
     case rel=>exact ⟨k,r,by omega,by go_num,rfl,by assumption,by have h:=HST.out;rw [HVV.out] at h;exact h⟩
     case measure=>simp [intOf] <;> omega
    case true=>
     cases hC:(lo == 0)
     case false=>
      have hv:sqOk p x=false:=by rw [HOK.out,hA,hB,hC];rfl
      have HVV:=zh hv;clear hv
      go_wp2_with fail
      refine (T1.out _).mono ?_
      rintro e w1 ⟨rfl,rfl⟩
      go_wp2_with fail
      go_round
      case rel=>exact ⟨k,r,by omega,by go_num,rfl,by assumption,by have h:=HST.out;rw [HVV.out] at h;exact h⟩
      case measure=>simp [intOf] <;> omega
     case true=>
      have hv:sqOk p x=true:=by rw [HOK.out,hA,hB,hC];rfl
      have HVV:=zh hv;clear hv
      go_wp2_with fail
      refine (T1.out _).mono ?_
      rintro e w1 ⟨rfl,rfl⟩
      go_wp2_with fail
      go_round
      case rel=>exact ⟨k,x,by omega,by go_num,rfl,by assumption,by have h:=HST.out;rw [HVV.out] at h;exact h⟩
      case measure=>simp [intOf] <;> omega
theorem elemW:elemB Tryz.prog 216 23 (.int .u32 0) 4:=⟨Tryz.underlying216,by kernel_rfl⟩
theorem u32s_next (l:List (BitVec 32)) (t:Nat) (h:t < l.length):u32s (l.take (t+1))=u32s (l.take t)++[.int .u32 (V (l.getD t 0))]:=by
 have e:l.getD t 0=l[t]:=by simp [h]
 rw [List.take_succ_eq_append_getElem h,←e]
 simp [u32s]
def ARel1 (w1:World) (v i:Value) (wr:World):Prop:=
 ∃ t:Nat,t≤64∧i=.int .i64 t∧OwnV wr w1.heap.size 23 v (u32s (Kl.take t))∧Below w1.heap.size w1 wr
def ARel2 (w1:World) (vk v i:Value) (wr:World):Prop:=
 ∃ t:Nat,t≤8∧i=.int .i64 t∧OwnV wr w1.heap.size 23 v (u32s (IVl.take t))∧OwnV wr w1.heap.size 23 vk (u32s Kl)∧(∀ g,vk.ownBlock=some g→v.ownBlock≠some g)∧Below w1.heap.size w1 wr
def AEnd (w:World) (e:Ending) (w':World):Prop:=
 ∃ vk vf,e=.returned (.tuple #[vk,vf])∧OwnV w' w.heap.size 23 vk (u32s Kl)∧OwnV w' w.heap.size 23 vf (u32s IVl)∧Below w.heap.size w w'
theorem ownV_more {w:World} {B B':Nat} {e:TypeId} {v:Value} {xs:List Value} (h:OwnV w B e v xs) (hB:B'≤B):OwnV w B' e v xs:=by
 refine ⟨h.1,?_⟩
 rcases h.2 with hn | ⟨g,cap,cur,rfl,hg,hr⟩
 ·exact .inl hn
 ·exact .inr ⟨g,cap,cur,rfl,Nat.le_trans hB hg,hr⟩
theorem all_any (w:World):Calls Tryz.prog 136 #[] w (AEnd w):=by
 have HP:=zh (primes_any 64 (by decide) w)
 go_enter Tryz.func136,Tryz.ntmps136
 go_wp2_with fail
 refine HP.out.mono ?_
 rintro e w1 ⟨v,q,rfl,hq,hlen,hown,hb⟩
 obtain ⟨a,cap,rfl,hc⟩:=own_open hown
 obtain ⟨gp,rfl,_⟩:=hc 0 (by omega)
 have hpc:∀ t,t < 64→w1.cell? ⟨gp,t,none⟩=some (.int .u64 (((pr 312).getD t 0:Nat):Int)):=fun t ht=>by
  obtain ⟨g,e,h⟩:=hc t (by omega)
  rw [pr_at q t hq (by omega)] at h
  injection e with e
  injection e with e1
  rw [e1];exact h
 obtain ⟨L,hL⟩:∃ L,L=(pr q).length:=⟨_,rfl⟩
 rw [←hL] at hlen ⊢
 have hgp:gp < w1.heap.size:=block_lt_of_cell (hpc 0 (by decide))
 have PC:=zh hpc;have HB:=zh hb
 clear hpc hc hown hL hq hb HP
 go_wp2_with fail
 go_loopw [3,5] (fun v i wr=>ARel1 w1 v i wr) (fun _ i _=>64 - (intOf i).toNat)
 case atStart=>exact ⟨0,by omega,rfl,OwnV.nil _ _ _,Below.refl _ _⟩
 case round=>
  obtain ⟨t,ht,rfl,how,hbr⟩:=hrel
  have hol:(u32s (Kl.take t)).length=t:=by rw [u32s_length,List.length_take];exact Nat.min_eq_left ht
  by_cases hlt:t < 64
  ·have cp:wr.cell? ⟨gp,t,none⟩=some (.int .u64 (((pr 312).getD t 0:Nat):Int)):=by rw [hbr.cell (p:=⟨gp,t,none⟩) hgp];exact PC.out t hlt
   obtain ⟨p,hpp⟩:∃ p:Int,p=(((pr 312).getD t 0:Nat):Int):=⟨_,rfl⟩
   rw [←hpp] at cp
   have hcube:=fun wx=>cube_any p wx (by rw [hpp];exact Int.natCast_nonneg _)
   rw [show cubeGo p 35 0 % (4294967296:Int)=V (Kl.getD t 0) by rw [hpp];exact cube_at t hlt] at hcube
   have hnx:=u32s_next Kl t hlt
   obtain ⟨x,hx⟩:∃ x,x=Kl.getD t 0:=⟨_,rfl⟩
   obtain ⟨X,hX⟩:∃ X,X=u32s (Kl.take t):=⟨_,rfl⟩
   rw [←hx] at hcube hnx
   rw [←hX] at how hnx hol
   have hb4:(X.length+1)*4≤140737488355328:=by omega
   have hb5:X.length < 140737488355328:=by omega
   have hlL:(t:Int) < (L:Int):=by omega
   have CUBE:=zh hcube;have NX:=zh hnx;have OW:=zh how;have BR:=zh hbr;have H4:=zh hb4;have H5:=zh hb5
   clear hcube hnx how hbr hb4 hb5 hpp hx hX hol
   go_wp2_with (first
    | (go_at_call 155;refine (CUBE.out _).mono ?_;rintro e w' ⟨rfl,rfl⟩)
    | (at_builtin;refine wpList_append_lit zr _ _ 216 zr (.int .u32 (V x)) (.int .u32 0) 4 elemW zr zr OW.out zr zr H4.out H5.out BR.out.size ?_;intro v' w' ho' _ hb' _;have OW':=zh ho';have BR':=zh (BR.out.trans hb');clear ho' hb'))
   go_roundw
   case rel=>exact ⟨t+1,by omega,by go_num,by rw [NX.out];exact OW'.out,BR'.out⟩
   case measure=>simp [intOf];omega
  ·have ht64:t=64:=by omega
   have hall:Kl.take t=Kl:=List.take_of_length_le (by rw [ht64];decide)
   rw [hall] at how
   have hge:¬ (t:Int) < 64:=by omega
   have OWK:=zh how;have BR:=zh hbr
   clear how hbr hall ht64 hlt hol ht
   go_wp2_with fail
   obtain ⟨wo,rfl⟩:∃ wo:World,wo=wr:=⟨_,rfl⟩
   go_loopw [4,6] (fun v i wr=>ARel2 w1 u3 v i wr) (fun _ i _=>8 - (intOf i).toNat)
   case atStart=>exact ⟨0,by omega,rfl,OwnV.nil _ _ _,OWK.out,fun g _=>by simp [Value.ownBlock],BR.out⟩
   case round=>
    obtain ⟨t2,ht,rfl,how,hok,hne,hbr⟩:=hrel
    have hol:(u32s (IVl.take t2)).length=t2:=by rw [u32s_length,List.length_take];exact Nat.min_eq_left ht
    by_cases hlt:t2 < 8
    ·have cp:wr.cell? ⟨gp,t2,none⟩=some (.int .u64 (((pr 312).getD t2 0:Nat):Int)):=by rw [hbr.cell (p:=⟨gp,t2,none⟩) hgp];exact PC.out t2 (by omega)
     obtain ⟨p,hpp⟩:∃ p:Int,p=(((pr 312).getD t2 0:Nat):Int):=⟨_,rfl⟩
     rw [←hpp] at cp
     have hsq:=fun wx=>square_any p wx (by rw [hpp];exact Int.natCast_nonneg _)
     rw [show sqGo p 36 0 % (4294967296:Int)=V (IVl.getD t2 0) by rw [hpp];exact square_at t2 hlt] at hsq
     have hnx:=u32s_next IVl t2 hlt
     obtain ⟨x,hx⟩:∃ x,x=IVl.getD t2 0:=⟨_,rfl⟩
     obtain ⟨X,hX⟩:∃ X,X=u32s (IVl.take t2):=⟨_,rfl⟩
     rw [←hx] at hsq hnx
     rw [←hX] at how hnx hol
     have hb4:(X.length+1)*4≤140737488355328:=by omega
     have hb5:X.length < 140737488355328:=by omega
     have hlL:(t2:Int) < (L:Int):=by omega
     have SQ:=zh hsq;have NX:=zh hnx;have OW:=zh how;have OK:=zh hok;have NE:=zh hne;have BRR:=zh hbr;have H4:=zh hb4;have H5:=zh hb5
     clear hsq hnx how hok hne hbr hb4 hb5 hpp hx hX hol
     go_wp2_with (first
      | (go_at_call 156;refine (SQ.out _).mono ?_;rintro e w' ⟨rfl,rfl⟩)
      | (at_builtin;refine wpList_append_lit zr _ _ 216 zr (.int .u32 (V x)) (.int .u32 0) 4 elemW zr zr OW.out zr zr H4.out H5.out BRR.out.size ?_;intro v' w' ho' hk' hb' hg';have OW':=zh ho';have OK':=zh (OK.out.keep fun g hg=>hk' g (OK.out.lt g hg).2 (NE.out g hg));have NE':Hid (∀ g,u3.ownBlock=some g→v'.ownBlock≠some g):=(fun g hg=>by (rcases hg' with e | ⟨g',e,hlo⟩);(rw [e];exact NE.out g hg);(rw [e];intro e';injection e' with e';have:=(OK.out.lt g hg).2;omega));have BR':=zh (BRR.out.trans hb');clear ho' hk' hb' hg'))
     go_roundw
     case rel=>exact ⟨t2+1,by omega,by go_num,by rw [NX.out];exact OW'.out,OK'.out,NE'.out,BR'.out⟩
     case measure=>simp [intOf];omega
    ·have ht8:t2=8:=by omega
     have hall:IVl.take t2=IVl:=List.take_of_length_le (by rw [ht8];decide)
     rw [hall] at how
     have hge:¬ (t2:Int) < 8:=by omega
     have OWF:=zh how;have OK:=zh hok;have BRR:=zh hbr
     clear how hok hne hbr hall ht8 hlt hol ht
     go_wp2_with fail
     go_ret2
     exact ⟨_,_,rfl,ownV_more OK.out HB.out.size,ownV_more OWF.out HB.out.size,HB.out.trans (BRR.out.mono HB.out.size)⟩
/-! ### the padding, plainly -/
def lens (m:Nat) (i:Nat):Lb8:=(List.range i).map (lenByte m)
theorem lens_next (m i:Nat):lens m (i+1)=lens m i++[lenByte m i]:=by simp [lens,List.range_succ]
theorem padRow_get (q m:Nat) (hq:q≤64):∀ i j,i≤8→(padRow q m i).getD j 0=if q≤j∧j < q+i then lenByte m (j - q) else P0.getD j 0
 | 0,j,_=>by simp [padRow];omega
 | i+1,j,hi=>by
  have ih:=padRow_get q m hq i j (by omega)
  have hl:=padRow_length q m i
  rw [padRow]
  by_cases hj:j=q+i
  ·subst hj
   rw [if_pos (by omega),List.getD_eq_getElem?_getD,List.getElem?_set_self (by rw [hl];omega)]
   simp
  ·rw [List.getD_eq_getElem?_getD,List.getElem?_set_ne (Ne.symm hj),←List.getD_eq_getElem?_getD,ih]
   by_cases h:q≤j∧j < q+i
   ·rw [if_pos h,if_pos (by omega)]
   ·rw [if_neg h,if_neg (by omega)]
theorem P0_get (j:Nat) (h:j < 72):P0.getD j 0=if j=0 then 128 else 0:=by
 cases j with
 | zero=>rfl
 | succ j=>
  rw [if_neg (by omega)]
  unfold P0
  rw [List.getD_cons_succ,List.getD_eq_getElem?_getD,List.getElem?_replicate,if_pos (by omega)];rfl
theorem padBytes_eq (n:Nat):padBytes n=(128::List.replicate (padQ (n % 64) - 1) 0)++lens (n*8) 8:=by
 have hq:=padQ_bd (n % 64) (Nat.mod_lt _ (by decide))
 unfold padBytes
 generalize padQ (n % 64)=q at *
 apply List.ext_getElem (by simp [padRow_length,lens];omega)
 intro j h1 h2
 have hj:j < q+8:=by simpa [padRow_length] using (by simp at h1;omega)
 have e1:(List.take (q+8) (padRow q (n*8) 8))[j]=(padRow q (n*8) 8).getD j 0:=by
  simp [List.getD_eq_getElem?_getD,List.getElem_take,padRow_length,show j < 72 by omega]
 rw [e1,padRow_get q (n*8) hq.2 8 j (Nat.le_refl _),P0_get j (by omega)]
 by_cases hqj:q≤j
 ·rw [if_pos ⟨hqj,hj⟩,List.getElem_append_right (by simp;omega)]
  simp [lens,show q - 1+1=q by omega]
 ·rw [if_neg (by omega),List.getElem_append_left (by simp;omega)]
  cases j with
  | zero=>rfl
  | succ j=>simp
def padZ (b:Lb8) (z:Nat):Lb8:=b++128::List.replicate z 0
theorem padZ_next (b:Lb8) (z:Nat):padZ b (z+1)=padZ b z++[0]:=by
 unfold padZ
 rw [List.replicate_succ',List.append_assoc];rfl
theorem padZ_length (b:Lb8) (z:Nat):(padZ b z).length=b.length+1+z:=by simp [padZ];omega
def ZRel (w:World) (b:Lb8) (z0:Nat) (v:Value) (wr:World):Prop:=∃ z:Nat,z≤z0∧OwnB wr w.heap.size v (padZ b z)∧Below w.heap.size w wr
def LRel (w:World) (T:Lb8) (m:Nat) (v i:Value) (wr:World):Prop:=
 ∃ k:Nat,k≤8∧i=.int .i64 (56 - 8*(k:Int))∧OwnB wr w.heap.size v (T++lens m k)∧Below w.heap.size w wr
theorem pad_ref (b:Lb8) (v:Value) (w:World) (hb:Sl w v b) (lb:b.length≤1099511627776):Calls Tryz.prog 137 #[v] w (PadEnd w (b++padBytes b.length)):=by
 have HB:=zh hb
 obtain ⟨a0,c0,rfl,_,_⟩:=hb
 obtain ⟨n,hn⟩:∃ n,n=b.length:=⟨_,rfl⟩
 have hq:=padQ_bd (n % 64) (Nat.mod_lt _ (by decide))
 obtain ⟨q,hqq⟩:∃ q,q=padQ (n % 64):=⟨_,rfl⟩
 rw [←hqq] at hq
 have hmod:∀ z,z+1≤q→((n+1+z) % 64=56 ↔ z+1=q):=fun z hz=>by
  rw [hqq] at hz ⊢
  unfold padQ at hz ⊢
  split at hz <;> split <;> omega
 have hfin:b++padBytes n=padZ b (q - 1)++lens (n*8) 8:=by
  rw [padBytes_eq,←hqq,padZ,List.append_assoc]
 rw [←hn] at lb HB ⊢
 rw [hfin]
 have HN:=zh hn;have MOD:=zh hmod;have HQ:=zh hq
 clear hn hmod hqq hfin hq
 go_enter Tryz.func137,Tryz.ntmps137
 go_wp2_with (first
  | (at_builtin;refine wpList_append_bytes zr (.const (.slice none 0 0)) _ zr w.heap.size (.slice none 0 0) (.slice a0 n c0) [] b zr (OwnB.nil _ _) zr HB.out (by have:=HN.out;simp;omega) (Nat.le_refl _) ?_;intro v5 w5 ho5 hk5 hb5;have HO5:=zh (ownB_V ho5);have B5:=zh hb5;clear ho5 hk5 hb5)
  | (at_builtin;refine wpList_append_lit zr _ _ 63 zr (.int .u8 128) (.int .u8 0) 1 elemB8 zr zr HO5.out zr zr (by have:=HN.out;simp [u8s_length];omega) (by have:=HN.out;simp [u8s_length];omega) B5.out.size ?_;intro v6 w6 ho6 hk6 hb6 _;have HO6:=zh ho6;have B6:=zh (B5.out.trans hb6);clear ho6 hk6 hb6))
 have h0:ZRel w b (q - 1) v6 w6:=⟨0,Nat.zero_le _,ownV_B ((show u8s (padZ b 0)=u8s ([]++b)++[.int .u8 128] by simp [padZ,u8s]) ▸ HO6.out),B6.out⟩
 have H0:=zh h0
 clear h0 HO5 HO6 B5 B6
 go_loopw [3] (fun v wr=>ZRel w b (q - 1) v wr) (fun v _=>200+n - (match v with | .slice _ l _=>l | _=>0))
 case atStart=>exact H0.out
 case round=>
  obtain ⟨z,hz,how,hbr⟩:=hrel
  have hov:=ownB_V how
  obtain ⟨a1,c1,hv1,-,-⟩:=how.open
  have hl:=padZ_length b z
  rw [←HN.out] at hl
  rw [hl] at hv1
  subst hv1
  have hmz:=MOD.out z (by have:=HQ.out;omega)
  by_cases hlt:z < q - 1
  ·have hm:¬ (((n+1+z:Nat):Int) % 64=56):=by have:=hmz;omega
   have hl1:(u8s (padZ b z)).length=n+1+z:=by rw [u8s_length,hl]
   have H1:=zh (show ((u8s (padZ b z)).length+1)*1≤140737488355328 by have:=HQ.out;omega)
   have H2:=zh (show (u8s (padZ b z)).length < 140737488355328 by have:=HQ.out;omega)
   have OV:=zh hov;have BR:=zh hbr
   clear hov hbr how hmz hl hl1
   go_wp2_with (first
    | (at_builtin;refine wpList_append_lit zr _ _ 63 zr (.int .u8 0) (.int .u8 0) 1 elemB8 zr zr OV.out zr zr H1.out H2.out BR.out.size ?_;intro v' w' ho' _ hb' _;have OV':=zh ho';have BR':=zh (BR.out.trans hb');clear ho' hb'))
   go_roundw
   case rel=>
    have e:u8s (padZ b (z+1))=u8s (padZ b z)++[.int .u8 0]:=by rw [padZ_next];simp [u8s]
    exact ⟨z+1,by omega,ownV_B (e ▸ OV'.out),BR'.out⟩
   case measure=>
    have e:u8s (padZ b (z+1))=u8s (padZ b z)++[.int .u8 0]:=by rw [padZ_next];simp [u8s]
    obtain ⟨a2,c2,hv2,-,-⟩:=(ownV_B (e ▸ OV'.out)).open
    have hl2:=padZ_length b (z+1)
    rw [←HN.out] at hl2
    rw [hl2] at hv2
    subst hv2
    have:=HQ.out
    simp only
    omega
  ·have hm:((n+1+z:Nat):Int) % 64=56:=by have:=hmz;have:=HQ.out;omega
   have hzq:z=q - 1:=by omega
   obtain ⟨T,hT⟩:∃ T,T=padZ b z:=⟨_,rfl⟩
   have hTl:T.length≤n+64:=by rw [hT,hl];have:=HQ.out;omega
   rw [←hT] at how
   have HT:=zh (hzq ▸ hT)
   have OW:=zh how;have BR:=zh hbr
   clear hov hbr how hmz hl hzq hT
   go_wp2_with fail
   obtain ⟨wo,rfl⟩:∃ wo:World,wo=wr:=⟨_,rfl⟩
   clear hm
   generalize Value.bool (((n:Int)+1+(z:Int)) % 64 != 56)=u13'
   go_loopw [3,5] (fun v i wr=>LRel w T (n*8) v i wr) (fun _ i _=>(intOf i+8).toNat)
   case atStart=>exact ⟨0,by omega,rfl,by simpa [lens] using OW.out,BR.out⟩
   case round=>
    obtain ⟨k,hk,rfl,how,hbr⟩:=hrel
    have hov:=ownB_V how
    obtain ⟨a2,c2,hv2,-,-⟩:=how.open
    have hl2:(T++lens (n*8) k).length=T.length+k:=by simp [lens]
    rw [hl2] at hv2
    subst hv2
    by_cases hlt:k < 8
    ·have hge:(56 - 8*(k:Int))≥0:=by omega
     have H1:=zh (show ((u8s (T++lens (n*8) k)).length+1)*1≤140737488355328 by rw [u8s_length,hl2];omega)
     have H2:=zh (show (u8s (T++lens (n*8) k)).length < 140737488355328 by rw [u8s_length,hl2];omega)
     have OV:=zh hov;have BRR:=zh hbr
     clear hov hbr how hl2
     go_wp2_with (first
      | (at_builtin;refine wpList_append_lit zr _ _ 63 zr (.int .u8 ((n:Int)*8 / 2 ^ (56 - 8*k) % 256)) (.int .u8 0) 1 elemB8 zr zr OV.out zr zr H1.out H2.out BRR.out.size ?_;intro v' w' ho' _ hb' _;have OV':=zh ho';have BR':=zh (BRR.out.trans hb');clear ho' hb'))
     go_roundw
     case rel=>
      have e:u8s (T++lens (n*8) (k+1))=u8s (T++lens (n*8) k)++[.int .u8 ((n:Int)*8 / 2 ^ (56 - 8*k) % 256)]:=by rw [lens_next,←List.append_assoc,u8s_snoc,lenByte_val]
      exact ⟨k+1,by omega,by go_num,ownV_B (e ▸ OV'.out),BR'.out⟩
     case measure=>simp [intOf];omega
    ·have hge:¬ (56 - 8*(k:Int))≥0:=by omega
     have hk8:k=8:=by omega
     have hLk:lens (n*8) 8=lens (n*8) k:=by rw [hk8]
     have OWF:=zh how;have BRR:=zh hbr
     clear hov hbr how hl2 hk8
     go_wp2_with fail
     go_ret
     exact ⟨_,rfl,by rw [←HT.out];first | exact OWF.out | (rw [hLk];exact OWF.out),BRR.out⟩
end Sha
end Go.Proofs.YtplmfmpbkjnbaaaGreatDoor
