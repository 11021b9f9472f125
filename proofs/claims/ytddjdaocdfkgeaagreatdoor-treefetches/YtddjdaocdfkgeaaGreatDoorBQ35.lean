/- My own texts, merged. -/
import Derived.Test.YtddjdaocdfkgeaaGreatDoorBQ31
import Derived.Test.YtddjdaocdfkgeaaGreatDoorBQ32
import Derived.Test.YtddjdaocdfkgeaaGreatDoorBQ00
import Derived.Test.YtddjdaocdfkgeaaGreatDoorBQ01
import Derived.Test.YtddjdaocdfkgeaaGreatDoorBQ06
import Derived.Test.YtddjdaocdfkgeaaGreatDoorBQ34
set_option maxRecDepth 100000
set_option maxHeartbeats 4000000
namespace Go.Proofs.YtddjdaocdfkgeaaGreatDoor
namespace Sha
open Go.RowKit Mem
structure RSInv (key nonce:Lb8) (n:BitVec 32) (C D:Array Value) (j:Nat) (v:Value) (w wr:World):Prop where
 o:OwnB wr (w.heap.size+1+1) v (cblks key nonce n j)
 c:At wr w.heap.size C 26
 d:At wr (w.heap.size+1) D 124
 b:Below w.heap.size w wr
theorem rstream_good (key nonce:Lb8) (n:BitVec 32) (size:Nat) (lk:key.length=32) (ln:nonce.length=12) (hz:size≤1048576) (w:World) :
 Calls Tryz.prog 87 #[.agg (u8s key).toArray,.agg (u8s nonce).toArray,.int .u32 (V n),.int .i64 (size:Int)] w (RSEnd w (cstream key nonce n size)):=by
 obtain ⟨X,hX⟩:∃ X,X=CZ64:=⟨_,rfl⟩
 have hx:=czero64
 rw [←hX] at hx
 have hXs:X.size=64:=by rw [hX];simp [CZ64,u8s]
 have hbl:=fun (m:BitVec 32) wx=>rblk_any key nonce m lk ln wx
 obtain ⟨C,hC⟩:∃ C,C=(u8s key).toArray:=⟨_,rfl⟩
 obtain ⟨D,hD⟩:∃ D,D=(u8s nonce).toArray:=⟨_,rfl⟩
 have hCs:C.size=32:=by rw [hC];simp [u8s,lk]
 have hDs:D.size=12:=by rw [hD];simp [u8s,ln]
 rw [←hC,←hD] at hbl
 rw [←hC,←hD]
 have g3:¬ (size:Int) < 0:=by omega
 have g4:¬ (1048576:Int) < (size:Int):=by omega
 have aD:At ((w.alloc (.cells C 26)).alloc (.cells D 124)) (w.heap.size+1) D 124:=by
  have h:=at_new (w.alloc (.cells C 26)) D 124
  simpa using h
 have hI:RSInv key nonce n C D 0 (.slice none 0 0) w ((w.alloc (.cells C 26)).alloc (.cells D 124)):=
  ⟨OwnB.nil _ _,(at_new w C _).alloc _,aD,((Below.refl _ _).alloc (Nat.le_refl _) _).alloc (by simp) _⟩
 have N0:Hid (V n=V (n+BitVec.ofNat 32 0)):=by show V n=V (n+BitVec.ofNat 32 0);simp
 have BL:=zh hbl;have XS:=zh hXs;have CS:=zh hCs;have DS:=zh hDs;have I0:=zh hI
 clear hbl hXs hX hC hD hCs hDs aD hI lk ln
 go_enter Tryz.func87,Tryz.ntmps87
 go_wp2_with fail
 generalize (w.alloc (.cells C 26)).alloc (.cells D 124)=w4 at *
 go_loopw [2,9,10] (fun vn vo _ wr=>∃ j:Nat,64*j≤size+63∧vn=.int .u32 (V (n+BitVec.ofNat 32 j))∧RSInv key nonce n C D j vo w wr) (fun _ vo _ _=>2000000 - (match vo with | .slice _ l _=>l | _=>0))
 case atStart=>exact ⟨0,by omega,by rw [N0.out],I0.out⟩
 case round=>
  clear I0 N0
  obtain ⟨j,hj,rfl,hI⟩:=hrel
  obtain ⟨ao,co,hvo,hco,_⟩:=hI.o.open
  rw [cblks_length] at hvo hco
  subst hvo
  by_cases hlt:64*j < size
  ·have hlt':64*(j:Int) < (size:Int):=by omega
   obtain ⟨N,hN⟩:∃ N,N=n+BitVec.ofNat 32 j:=⟨_,rfl⟩
   have hN2:(V N+1) % (4294967296:Int)=V (n+BitVec.ofNat 32 (j+1)):=by rw [hN];exact V_up n j
   have hb:=fun wx=>BL.out N wx
   obtain ⟨T,hT⟩:∃ T,T=cblk key nonce N:=⟨_,rfl⟩
   have hTl:T.length=64:=by rw [hT];exact cblk_length _ _ _
   have hnx:cblks key nonce n (j+1)=cblks key nonce n j++T:=by rw [hT,hN];rfl
   obtain ⟨F,hF⟩:∃ F,F=(u8s T).toArray:=⟨_,rfl⟩
   have hFs:F.size=64:=by rw [hF];simp [u8s,hTl]
   have hFo:F.all (·.oneCell')=true:=by rw [hF];exact u8s_one _
   rw [←hT,←hF] at hb
   rw [←hN]
   have BJ:=zh hb;have N2:=zh hN2;have TL:=zh hTl;have NX:=zh hnx;have HF:=zh hF;have FS:=zh hFs;have FO:=zh hFo;have OO:=zh hI.o;have BB:=zh hI.b;have CC:=zh hI.c;have DD:=zh hI.d;have BLN:=zh (cblks_length key nonce n j)
   clear hb hN2 hTl hnx hF hFs hFo hI hT hN hco
   go_wp2_with (first
    | (refine wpList_load_all zr 26 _ zr w.heap.size zr _ Tryz.underlying26 zr C _ CC.out (by rw [CS.out];exact info32b) ?_)
    | (refine wpList_load_all zr 124 _ zr (w.heap.size+1) zr _ Tryz.underlying124 zr D _ DD.out (by rw [DS.out];exact info12) ?_)
    | (go_at_call 107;refine (BJ.out _).mono ?_;rintro e w2 ⟨rfl,hb2⟩;have O2:=zh (OO.out.below hb2);have C2:=zh (CC.out.below hb2 CC.out.lt);have D2:=zh (DD.out.below hb2 DD.out.lt);have B2:=zh (BB.out.trans (hb2.mono BB.out.size));clear hb2)
    | (refine wpList_store_new zr 148 _ _ zr zr F _ _ zr zr (by rw [FS.out];exact cinfo64) (by rw [FS.out,XS.out]) FO.out ?_;have F3:=zh (at_new w2 F 148);have O3:=zh (O2.out.below ((Below.refl _ _).alloc (Nat.le_refl _) (.cells F 148)));have C3:=zh (C2.out.alloc (.cells F 148));have D3:=zh (D2.out.alloc (.cells F 148));have B3:=zh (B2.out.alloc B2.out.size (.cells F 148));generalize w2.alloc (.cells F 148)=w3 at *;generalize w2.heap.size=bd at *)
    | (at_builtin;refine wpList_append_bytes zr _ _ zr (w.heap.size+1+1) (.slice ao (64*j) co) (.slice (some ⟨bd,0,none⟩) 64 64) (cblks key nonce n j) T zr O3.out zr (at_sl (by have h:=F3.out;rw [HF.out] at h;exact h) TL.out) (by rw [TL.out,BLN.out];omega) (by have:=D3.out.lt;omega) ?_;intro v4 w4 ho4 hk4 hb4;have O4:Hid (OwnB w4 (w.heap.size+1+1) v4 (cblks key nonce n (j+1))):=(by rw [NX.out];exact ho4);have C4:=zh (C3.out.below hb4 (by omega));have D4:=zh (D3.out.below hb4 (by omega));have B4:=zh (B3.out.trans (hb4.mono (by omega)));clear ho4 hk4 hb4))
   rw [N2.out]
   go_roundw
   case rel=>exact ⟨j+1,by omega,rfl,O4.out,C4.out,D4.out,B4.out⟩
   case measure=>
    obtain ⟨a5,c5,hv5,_,_⟩:=O4.out.open
    rw [cblks_length] at hv5
    subst hv5
    simp only
    omega
  ·have hge:¬ 64*(j:Int) < (size:Int):=by omega
   have hst:=cstream_from key nonce n size j (by omega)
   have hsl:∀ a',(64*j≠0→a'=ao)→Sl wr (.slice a' size co) (cstream key nonce n size):=fun a' ha=>by
    obtain ⟨a6,c6,e6,_,hr6⟩:=hI.o.sl
    rw [cblks_length] at e6
    injection e6 with e61 _ e63
    have hl:=cstream_length key nonce n size
    refine ⟨a',co,by rw [hl],by rw [hl];omega,fun hne=>?_⟩
    have hp0:0 < size:=by
     rcases Nat.eq_zero_or_pos size with h | h
     ·rw [h] at hl;exact absurd (List.eq_nil_of_length_eq_zero hl) (by rw [←h];exact hne)
     ·exact h
    obtain ⟨bb,oo,e7,hlt7,hc7⟩:=hr6 (by intro e;have:=cblks_length key nonce n j;rw [e] at this;simp at this;omega)
    refine ⟨bb,oo,by rw [ha (by omega),e61,e7],hlt7,fun i hi=>?_⟩
    rw [hl] at hi
    rw [hc7 i (by rw [cblks_length];omega),←hst]
    simp [List.getD_eq_getElem?_getD,hi]
   have hsz:size≤co:=by omega
   have SL:=zh hsl;have BB:=zh hI.b
   clear hsl hst hI
   go_wp2_with fail
   go_ret
   refine ⟨_,rfl,?_,BB.out⟩
   exact SL.out _ (fun _=>rfl)
theorem cturn_joinB (b s:Lb8) (h:b.length=s.length):cturn b s=joinB b s:=by
 rw [cturn,←h,List.drop_length,List.append_nil];rfl
theorem splice_full (l:Lb8) (n:Nat) (h:l.length=n):Mem.splice (u8s (List.replicate n 0)).toArray 0 (u8s (l.take n))=(u8s l).toArray:=by
 subst h
 rw [List.take_length]
 have h1:List.drop (0+(u8s l).length) (u8s (List.replicate l.length 0)).toArray.toList=[]:=List.drop_of_length_le (by simp [u8s])
 unfold Mem.splice
 rw [h1,List.take_zero,List.nil_append,List.append_nil]
theorem two_made {w w4:World} {C D:Array Value} {m:Nat} (ho:w4.ownsRow ((w.alloc (.cells C 26)).alloc (.cells D 124)).heap.size 5 1 (.slice (some ⟨((w.alloc (.cells C 26)).alloc (.cells D 124)).heap.size,0,none⟩) m m) m (madeCells (Value.int .u8 0).cells (m*1)).toList)
 (hg:World.grownBy ((w.alloc (.cells C 26)).alloc (.cells D 124)) w4 none) :
 At w4 (w.heap.size+1+1) (u8s (List.replicate m 0)).toArray 5∧At w4 w.heap.size C 26∧At w4 (w.heap.size+1) D 124∧Below w.heap.size w w4:=by
 have aC:At ((w.alloc (.cells C 26)).alloc (.cells D 124)) w.heap.size C 26:=(at_new w C _).alloc _
 have aD:At ((w.alloc (.cells C 26)).alloc (.cells D 124)) (w.heap.size+1) D 124:=by
  have h:=at_new (w.alloc (.cells C 26)) D 124
  simpa using h
 have aB:Below w.heap.size w ((w.alloc (.cells C 26)).alloc (.cells D 124)):=((Below.refl _ _).alloc (Nat.le_refl _) _).alloc (by simp) _
 have key0:∀ b E t,At ((w.alloc (.cells C 26)).alloc (.cells D 124)) b E t→At w4 b E t:=fun b E t h=>by
  have hl:=h.lt
  unfold At at *
  rw [hg.block b hl (by simp)];exact h
 refine ⟨?_,key0 _ _ _ aC,key0 _ _ _ aD,aB.grown hg aB.size (fun _ h=>by cases h)⟩
 have h:=own_full ho
 rw [made_zeros] at h
 simpa using h
structure TuInv (L s:Lb8) (g:Nat) (w wr:World):Prop where
 row:At wr (w.heap.size+1+1) (u8s L).toArray 5
 st:At wr g (u8s s).toArray 5
 b:Below w.heap.size w wr
theorem turned_any (key nonce:Lb8) (n:BitVec 32) (l:Lb8) (v:Value) (lk:key.length=32) (ln:nonce.length=12) (hz:l.length≤1048576) (w:World) (hv:Sl w v l) (hL:CTabs w) :
 Calls Tryz.prog 82 #[.agg (u8s key).toArray,.agg (u8s nonce).toArray,.int .u32 (V n),v] w (SEnd w (cturn l (cstream key nonce n l.length))):=by
 have hst:=fun wx (h:Below w.heap.size w wx)=>stream_good key nonce n l.length lk ln hz wx (hL.below h (Nat.le_refl _))
 obtain ⟨s,hs⟩:∃ s,s=cstream key nonce n l.length:=⟨_,rfl⟩
 have ls:s.length=l.length:=by rw [hs];exact cstream_length _ _ _ _
 rw [←hs] at hst ⊢
 rw [cturn_joinB l s ls.symm]
 have hv0:=hv
 obtain ⟨a0,cap,rfl,_,_⟩:=hv
 have hsp:=splice_full l l.length rfl
 have jl:=joinTo_length l s ls.symm
 have jz:=joinTo_zero l s
 have ja:=joinTo_all l s ls.symm
 have jg:=fun j hj=>joinTo_get l s ls.symm j hj
 have js:=fun j hj=>joinTo_set l s ls.symm j hj
 have jB:=joinB_length l s ls.symm
 obtain ⟨m,hm⟩:∃ m,m=l.length:=⟨_,rfl⟩
 rw [←hm] at hst hsp jl ja jg js jB ls hz hv0 ⊢
 have hmin:min (m:Int) 1048576=(m:Int):=by omega
 have hmle:(m:Int)≤1048576:=by omega
 have hmlt:¬ (1048576:Int) < (m:Int):=by omega
 obtain ⟨C,hC⟩:∃ C,C=(u8s key).toArray:=⟨_,rfl⟩
 obtain ⟨D,hD⟩:∃ D,D=(u8s nonce).toArray:=⟨_,rfl⟩
 have hCs:C.size=32:=by rw [hC];simp [u8s,lk]
 have hDs:D.size=12:=by rw [hD];simp [u8s,ln]
 rw [←hC,←hD] at hst
 rw [←hC,←hD]
 obtain ⟨i8,hi8,hz8,hs8,hb8⟩:=info_parts infoU8
 have ST:=zh hst;have CS:=zh hCs;have DS:=zh hDs;have I8:=zh hi8;have Z8:=zh hz8;have S8:=zh hs8;have B8':=zh hb8;have HV:=zh hv0;have SP:=zh hsp
 have JL:=zh jl;have JZ:=zh jz;have JA:=zh ja;have JG:=zh jg;have JS:=zh js;have JB:=zh jB;have LS:=zh ls;have HM:=zh hm
 clear hst hCs hDs hi8 hz8 hs8 hb8 hC hD lk ln hL hv0 hsp jl jz ja jg js jB ls hm hs
 go_enter Tryz.func82,Tryz.ntmps82
 go_wp2_with (first
  | (refine wpList_make_full _ zr _ _ 40 zr ((w.alloc (.cells C 26)).alloc (.cells D 124)).heap.size 5 i8 (.int .u8 0) 1 Tryz.underlying40 I8.out Z8.out S8.out .i64 .i64 _ _ m zr zr rfl rfl (by rw [B8'.out];omega) (by simp [maxLen];omega) (Nat.le_refl _) ?_;intro w4 ho4 hg4;have hf:=two_made ho4 hg4;have R4:=zh hf.1;have C4:=zh hf.2.1;have D4:=zh hf.2.2.1;have B4:=zh hf.2.2.2;clear ho4 hg4 hf)
  | (refine wpList_copy_sl zr _ _ zr (w.heap.size+1+1) 0 m m (.slice a0 m cap) l zr zr (HV.out.below B4.out) m (by rw [←HM.out];exact (Nat.min_self m).symm) _ _ R4.out (by simp [u8s]) _ SP.out ?_;intro w5 ha5 hs5 ho5 hbb5;have R5:=zh ha5;have C5:=zh (at_keep C4.out ho5 (by omega));have D5:=zh (at_keep D4.out ho5 (by omega));have B5:=zh (hbb5 _ _ B4.out (by omega));clear ha5 hs5 ho5 hbb5)
  | (refine wpList_load_all zr 26 _ zr w.heap.size zr _ Tryz.underlying26 zr C _ C5.out (by rw [CS.out];exact info32b) ?_)
  | (refine wpList_load_all zr 124 _ zr (w.heap.size+1) zr _ Tryz.underlying124 zr D _ D5.out (by rw [DS.out];exact info12) ?_))
 refine (ST.out _ B5.out).mono ?_
 rintro e w6 ⟨g,rfl,hg6,hgl,hb6⟩
 rw [LS.out]
 have I6:Hid (TuInv (joinTo l s 0) s g w w6):=⟨by rw [JZ.out];exact R5.out.below hb6 R5.out.lt,hg6,B5.out.trans (hb6.mono B5.out.size)⟩
 have GNE:Hid (w.heap.size+1+1≠g):=by have:=R5.out.lt;show w.heap.size+1+1≠g;omega
 have GLE:Hid (w.heap.size≤g):=Nat.le_trans B5.out.size hgl
 clear hg6 hgl hb6 R4 C4 D4 B4 R5 C5 D5 B5 ST HV SP
 go_wp2_with fail
 go_loopw [10,11,26] (fun _ _ i wr=>∃ j:Nat,j≤m∧i=.int .i64 j∧TuInv (joinTo l s j) s g w wr) (fun _ _ i _=>m - (intOf i).toNat)
 case atStart=>exact ⟨0,by omega,rfl,I6.out⟩
 case round=>
  clear I6
  obtain ⟨j,hj,rfl,hI⟩:=hrel
  by_cases hlt:j < m
  ·obtain ⟨x,hxx⟩:∃ x,x=l.getD j 0:=⟨_,rfl⟩
   obtain ⟨y,hyy⟩:∃ y,y=s.getD j 0:=⟨_,rfl⟩
   have cj:wr.cell? ⟨w.heap.size+1+1,j,none⟩=some (.int .u8 (B8 x)):=by
    rw [hI.row.cell,List.getElem?_toArray,u8s_get _ _ (by rw [JL.out];exact hlt),JG.out j hlt,hxx];rfl
   have dj:wr.cell? ⟨g,j,none⟩=some (.int .u8 (B8 y)):=by
    rw [hI.st.cell,List.getElem?_toArray,u8s_get _ _ (by rw [LS.out];exact hlt),hyy];rfl
   have hset:(u8s (joinTo l s j)).toArray.setIfInBounds j (.int .u8 (B8 (x ^^^ y)))=(u8s (joinTo l s (j+1))).toArray:=by
    rw [←JS.out j hlt,←hxx,←hyy];exact u8s_set _ _ _
   have hEs:j < (u8s (joinTo l s j)).toArray.size:=by rw [List.size_toArray,u8s_length,JL.out];exact hlt
   have hk:=hI.row
   obtain ⟨E,hE⟩:∃ E,E=(u8s (joinTo l s j)).toArray:=⟨_,rfl⟩
   rw [←hE] at hk hset hEs
   have KK:=zh hk;have ST:=zh hset;have DS:=zh hEs;have SS:=zh hI.st;have BB:=zh hI.b
   have hlt':(j:Int) < (m:Int):=by omega
   clear hk hset hEs hI hE hxx hyy
   go_wp2_with (refine Mem.wpList_store_one zr 5 _ _ zr zr (w.heap.size+1+1) j (.int .u8 (B8 (x ^^^ y))) zr (by exact congrArg (Value.int .u8) (B8_xor x y)) zr infoB _ _ KK.out DS.out ?_;intro w7 a7 o7 b7;have K7:=zh a7;have S7:=zh (at_keep SS.out o7 (Ne.symm GNE.out));have B7:=zh (b7 _ _ BB.out (by omega));clear a7 o7 b7)
   go_roundw
   case rel=>exact ⟨j+1,by omega,by go_num,by rw [←ST.out];exact K7.out,S7.out,B7.out⟩
   case measure=>simp [intOf];omega
  ·have hjm:j=m:=by omega
   have hge:¬ (j:Int) < (m:Int):=by omega
   rw [hjm,JA.out] at hI
   have II:=zh hI
   clear hI hjm hlt hj
   go_wp2_with fail
   go_ret
   exact ⟨w.heap.size+1+1,by rw [JB.out];rfl,II.out.row,by omega,II.out.b⟩
end Sha
end Go.Proofs.YtddjdaocdfkgeaaGreatDoor
namespace Go.Proofs.YtddjdaocdfkgeaaGreatDoor
namespace Mem
open Go.RowKit
theorem OwnV.set {w:World} {B:Nat} {e:TypeId} {v:Value} {xs:List Value} (h:OwnV w B e v xs) (i:Nat) (u:Value) (hi:i < xs.length) :
 ∃ g cap C,v=.slice (some ⟨g,0,none⟩) xs.length cap∧B≤g∧At w g C e∧i < C.size∧∀ w',At w' g (C.setIfInBounds i u) e→OwnV w' B e v (xs.set i u):=by
 obtain ⟨_,h | ⟨g,cap,cur,rfl,hg,hh,hn,hc,hs,ht⟩⟩:=h
 ·obtain ⟨_,h0⟩:=h
  omega
 ·refine ⟨g,cap,cur,rfl,hg,hh,by rw [hs];omega,fun w' hw'=>⟨by simp,.inr ⟨g,cap,cur.setIfInBounds i u,by rw [List.length_set],hg,hw',by rw [List.length_set];exact hn,hc,by rw [Array.size_setIfInBounds];exact hs,?_⟩⟩⟩
  rw [List.length_set,Array.toList_setIfInBounds,List.take_set,ht]
end Mem
namespace Sha
open Go.RowKit Mem
structure RTInv (L:Lb8) (v:Value) (hs:Nat) (w wr:World):Prop where
 o:OwnB wr hs v L
 b:Below hs w wr
def ROEnd (w:World) (L:Lb8) (e:Ending) (w':World):Prop:=∃ v,e=.returned v∧OwnB w' w.heap.size v L∧Below w.heap.size w w'
theorem rturned_own (key nonce:Lb8) (n:BitVec 32) (l:Lb8) (v:Value) (lk:key.length=32) (ln:nonce.length=12) (hz:l.length≤1048576) (w:World) (hv:Sl w v l) :
 Calls Tryz.prog 72 #[.agg (u8s key).toArray,.agg (u8s nonce).toArray,.int .u32 (V n),v] w (ROEnd w (cturn l (cstream key nonce n l.length))):=by
 have hst:=fun wx=>rstream_good key nonce n l.length lk ln hz wx
 obtain ⟨s,hs⟩:∃ s,s=cstream key nonce n l.length:=⟨_,rfl⟩
 have ls:s.length=l.length:=by rw [hs];exact cstream_length _ _ _ _
 rw [←hs] at hst ⊢
 rw [cturn_joinB l s ls.symm]
 have hv0:=hv
 obtain ⟨a0,cap,rfl,_,_⟩:=hv
 have jl:=joinTo_length l s ls.symm
 have jz:=joinTo_zero l s
 have ja:=joinTo_all l s ls.symm
 have js:=fun j hj=>joinTo_set l s ls.symm j hj
 obtain ⟨m,hm⟩:∃ m,m=l.length:=⟨_,rfl⟩
 rw [←hm] at hst jl ja js ls hz hv0 ⊢
 have hmin:min (m:Int) 1048576=(m:Int):=by omega
 have hmle:(m:Int)≤1048576:=by omega
 have hmlt:¬ (1048576:Int) < (m:Int):=by omega
 obtain ⟨C,hC⟩:∃ C,C=(u8s key).toArray:=⟨_,rfl⟩
 obtain ⟨D,hD⟩:∃ D,D=(u8s nonce).toArray:=⟨_,rfl⟩
 have hCs:C.size=32:=by rw [hC];simp [u8s,lk]
 have hDs:D.size=12:=by rw [hD];simp [u8s,ln]
 rw [←hC,←hD] at hst
 rw [←hC,←hD]
 have aC:At ((w.alloc (.cells C 26)).alloc (.cells D 124)) w.heap.size C 26:=(at_new w C _).alloc _
 have aD:At ((w.alloc (.cells C 26)).alloc (.cells D 124)) (w.heap.size+1) D 124:=by
  have h:=at_new (w.alloc (.cells C 26)) D 124
  simpa using h
 have aB:Below w.heap.size w ((w.alloc (.cells C 26)).alloc (.cells D 124)):=((Below.refl _ _).alloc (Nat.le_refl _) _).alloc (by simp) _
 have ST:=zh hst;have CS:=zh hCs;have DS:=zh hDs;have AC:=zh aC;have AD:=zh aD;have AB:=zh aB;have HV:=zh hv0
 have JL:=zh jl;have JZ:=zh jz;have JA:=zh ja;have JS:=zh js;have LS:=zh ls;have HM:=zh hm
 clear hst hCs hDs aC aD aB hC hD lk ln hv0 jl jz ja js ls hm hs
 go_enter Tryz.func72,Tryz.ntmps72
 go_wp2_with (first
  | (refine wpList_load_all zr 26 _ zr w.heap.size zr _ Tryz.underlying26 zr C _ AC.out (by rw [CS.out];exact info32b) ?_)
  | (refine wpList_load_all zr 124 _ zr (w.heap.size+1) zr _ Tryz.underlying124 zr D _ AD.out (by rw [DS.out];exact info12) ?_))
 refine (ST.out _).mono ?_
 rintro e w4 ⟨vs,rfl,hs4,hb4⟩
 have B4:=zh (AB.out.trans (hb4.mono AB.out.size));have HV4:=zh (HV.out.below (AB.out.trans (hb4.mono AB.out.size)))
 have HS4:=hs4
 obtain ⟨a2,c2,rfl,_,_⟩:=hs4
 rw [LS.out] at HS4 ⊢
 have HS4':=zh HS4
 clear hb4 HS4 AC AD AB HV ST
 go_wp2_with (first | (at_builtin;refine wpList_append_bytes zr _ _ zr w4.heap.size (.slice none 0 0) (.slice a0 m cap) [] l zr (OwnB.nil _ _) zr HV4.out (by rw [List.length_nil,←HM.out];omega) (Nat.le_refl _) ?_;intro v5 w5 ho5 _ hb5;have O5:Hid (OwnB w5 w4.heap.size v5 (joinTo l s 0)):=(by rw [JZ.out];exact ho5);have B5:=zh hb5;clear ho5 hb5))
 have I5:Hid (RTInv (joinTo l s 0) v5 w4.heap.size w4 w5):=⟨O5.out,B5.out⟩
 obtain ⟨hs4,hhs⟩:∃ h,h=w4.heap.size:=⟨_,rfl⟩
 have HB4:Hid (w.heap.size≤hs4):=by rw [hhs];exact B4.out.size
 have HSZ:=zh hhs
 rw [←hhs] at I5
 clear O5 B5 hhs
 go_loopw [11] (fun i wr=>∃ j:Nat,j≤m∧i=.int .i64 j∧RTInv (joinTo l s j) v5 hs4 w4 wr) (fun i _=>m - (intOf i).toNat)
 case atStart=>exact ⟨0,by omega,rfl,I5.out⟩
 case round=>
  clear I5
  obtain ⟨j,hj,rfl,hI⟩:=hrel
  by_cases hlt:j < m
  ·obtain ⟨x,hxx⟩:∃ x,x=l.getD j 0:=⟨_,rfl⟩
   obtain ⟨y,hyy⟩:∃ y,y=s.getD j 0:=⟨_,rfl⟩
   have hv4:=HV4.out
   have hs5:=HS4'.out
   rw [HM.out] at hv4
   obtain ⟨b1,o1,hb1,cx⟩:=sl_at (i:=j) hv4 (by rw [←HM.out];exact hlt)
   rw [←LS.out] at hs5
   obtain ⟨b2,o2,hb2,cy⟩:=sl_at (i:=j) hs5 (by rw [LS.out];exact hlt)
   rw [hb1,hb2]
   rw [←hxx] at cx
   rw [←hyy] at cy
   have l1:b1 < hs4:=by rw [HSZ.out];exact block_lt_of_cell cx
   have l2:b2 < hs4:=by rw [HSZ.out];exact block_lt_of_cell cy
   have hset:(u8s (joinTo l s j)).set (0+j) (.int .u8 (B8 (x ^^^ y)))=u8s (joinTo l s (j+1)):=by
    rw [←JS.out j hlt,Nat.zero_add,←hxx,←hyy];simp [u8s,List.map_set];rfl
   obtain ⟨g,co,E,hv5,hg,hE,hEs,hnew⟩:=OwnV.set (ownB_V hI.o) (0+j) (.int .u8 (B8 (x ^^^ y))) (by rw [u8s_length,JL.out];omega)
   rw [hset] at hnew
   rw [u8s_length,JL.out] at hv5
   rw [hv5] at hnew ⊢
   have KK:=zh hE;have ES:=zh hEs;have NW:=zh hnew;have BB:=zh hI.b;have C1:=zh cx;have C2:=zh cy;have L1:=zh l1;have L2:=zh l2;have HG:=zh hg;have HV5:=zh hv5
   have hlt':(j:Int) < (m:Int):=by omega
   clear hI hE hEs hnew cx cy l1 l2 hg hset hxx hyy hv4 hs5 hb1 hb2 hv5
   go_wp2_with fail
   refine wp_region_plan_in (fun w'=>Below hs4 w4 w') ((.take 0 (.take 1 (.take 2 (.take 3 (.take 4 (.take 5 (.take 6 (.take 7 (.take 8 (.take 9 (.take 10 (.take 11 (.sole 12 .done)))))))))))))) (by kernel_rfl) (by kernel_rfl) (by kernel_rfl) BB.out.drew ?_
   iterate 4 ((first | refine Mem.pm1 ?_ | refine Mem.pm2 ?_ | refine Mem.pt ?_ | refine Mem.pf ?_);(simp only [Mem.zp,Mem.pb,Mem.pc]))
   refine plan_index 40 5 _ _ b1 o1 m cap j zr zr zr ze ze (by omega) Tryz.underlying40 (by kernel_rfl) ?_
   (simp only [Mem.zp,Mem.pb,Mem.pc])
   refine plan_cell 5 _ _ _ _ zr zr zr ze (fun w' hw'=>(hw'.cell (p:=⟨b1,o1+j,none⟩) L1.out).trans C1.out) Tryz.underlying5 zr ?_
   (simp only [Mem.zp,Mem.pb,Mem.pc])
   iterate 2 ((first | refine Mem.pm1 ?_ | refine Mem.pm2 ?_ | refine Mem.pt ?_ | refine Mem.pf ?_);(simp only [Mem.zp,Mem.pb,Mem.pc]))
   refine plan_index 40 5 _ _ b2 o2 m c2 j zr zr zr ze ze (by omega) Tryz.underlying40 (by kernel_rfl) ?_
   (simp only [Mem.zp,Mem.pb,Mem.pc])
   refine plan_cell 5 _ _ _ _ zr zr zr ze (fun w' hw'=>(hw'.cell (p:=⟨b2,o2+j,none⟩) L2.out).trans C2.out) Tryz.underlying5 zr ?_
   (simp only [Mem.zp,Mem.pb,Mem.pc])
   refine plan_bin _ _ _ _ _ _ _ _ zr zr zr ze ze (fun wx=>o_xorb _ _ _ _ _ _ wx) ?_
   (simp only [Mem.zp,Mem.pb,Mem.pc])
   refine plan_index 40 5 _ _ g 0 m co j zr zr zr ze ze (by omega) Tryz.underlying40 (by kernel_rfl) ?_
   (simp only [Mem.zp,Mem.pb,Mem.pc])
   refine plan_store_one 5 _ _ g (0+j) (.int .u8 (B8 (x ^^^ y))) E 5 zr zr zr zr ze ze zr infoB KK.out ES.out (BB.out.drew.setCell HG.out _) ?_
   refine plan_nil ?_
   have o7:OwnB (wr.drew.setCell ⟨g,0+j,none⟩ (.int .u8 (B8 (x ^^^ y)))) hs4 v5 (joinTo l s (j+1)):=by
    rw [HV5.out];exact ownV_B (NW.out _ (At.set (w:=wr.drew) KK.out _ _))
   have I7:Hid (RTInv (joinTo l s (j+1)) v5 hs4 w4 (wr.drew.setCell ⟨g,0+j,none⟩ (.int .u8 (B8 (x ^^^ y))))):=⟨o7,BB.out.drew.setCell HG.out _⟩
   clear o7
   generalize wr.drew.setCell ⟨g,0+j,none⟩ (.int .u8 (B8 (x ^^^ y)))=w7 at *
   go_wp2_with fail
   go_roundw
   case rel=>exact ⟨j+1,by omega,by go_num,by have h:=I7.out;rw [HV5.out] at h;exact h⟩
   case measure=>simp [intOf];omega
  ·have hjm:j=m:=by omega
   have hge:¬ (j:Int) < (m:Int):=by omega
   rw [hjm,JA.out] at hI
   have II:=zh hI
   clear hI hjm hlt hj
   go_wp2_with fail
   go_ret
   exact ⟨_,rfl,ownsRow_base II.out.o HB4.out,B4.out.trans (II.out.b.mono HB4.out)⟩
end Sha
end Go.Proofs.YtddjdaocdfkgeaaGreatDoor
namespace Go.Proofs.YtddjdaocdfkgeaaGreatDoor
namespace Sha
open Go.RowKit Mem
theorem conv_i64u (z:Int) (bb:BitVec 64) (hb:bb=BitVec.ofNat 64 z.toNat) (h0:0≤z) (h1:z≤9223372036854775807) (w:World):(convert 3 126 (.int .i64 z)).run Tryz.prog w=.ok (.int .u64 (bb.toNat:Int)) w:=by
 have e:(bb.toNat:Int)=z:=by rw [hb,BitVec.toNat_ofNat];omega
 rw [e]
 have h2:IntKind.u64.wrap z=z:=by rw [IntKind.wrap_u64];omega
 go_simp
def sealL (key:Lb8) (ep:BitVec 32) (block:Int) (page:Lb8):Lb8:=cturn page (cstream key (cnonce ep (BitVec.ofNat 64 block.toNat)) 0 page.length)
theorem sealL_length (key:Lb8) (ep:BitVec 32) (block:Int) (page:Lb8):(sealL key ep block page).length=page.length:=cturn_length _ _ (by rw [cstream_length];exact Nat.le_refl _)
theorem sealL_back (key:Lb8) (ep:BitVec 32) (block:Int) (page:Lb8):sealL key ep block (sealL key ep block page)=page:=by
 show cturn (sealL key ep block page) (cstream key _ 0 (sealL key ep block page).length)=page
 rw [sealL_length]
 exact cturn_back _ _ (by rw [cstream_length];exact Nat.le_refl _)
def sealBad (block:Int) (page:Lb8):Bool:=decide (page.length≠256∨block < 0)
def sealR (key:Lb8) (ep:BitVec 32) (block:Int) (page:Lb8):Lb8 × Int:=if sealBad block page then ([],1) else (sealL key ep block page,0)
def hideR (key:Lb8) (ep:BitVec 32) (place block:Int) (page:Lb8):Lb8 × RefV × Int:=
 if sealBad block page || decide (place < 0∨1 < place) then ([],zref,1) else (sealL key ep block page,⟨place,ep,digestOf (sealL key ep block page)⟩,0)
def openR (key:Lb8) (r:RefV) (block:Int) (x:Lb8):Lb8 × Int:=
 if sealBad block x then ([],1) else if digestOf x≠r.dg then ([],9) else (sealL key r.ep block x,0)
theorem wf_dig (place:Int) (ep:BitVec 32) (l:Lb8) (h0:0≤place) (h1:place≤1):RefV.Wf ⟨place,ep,digestOf l⟩:=by
 have hd:=digestOf_length l
 generalize digestOf l=D at *
 exact ⟨by show _≤place;omega,by show place≤_;omega,hd⟩
theorem hideR_wf (key:Lb8) (ep:BitVec 32) (place block:Int) (page:Lb8):(hideR key ep place block page).2.1.Wf:=by
 unfold hideR
 split
 ·exact zref_wf
 ·rename_i h
  simp at h
  exact wf_dig place ep _ (by omega) (by omega)
theorem ropen_own (key:Lb8) (lk:key.length=32) (r:RefV) (hr:r.Wf) (block:Int) (hbk:block≤9223372036854775807) (l:Lb8) (v:Value) (w:World) (hv:Sl w v l) (hp:l.length≤1048576) :
 Calls Tryz.prog 59 #[.agg (u8s key).toArray,.agg (refC r),.int .i64 block,v] w (SealOwn w (openR key r block l).1 (openR key r block l).2):=by
 obtain ⟨a0,c0,rfl⟩:=sl_inv hv
 obtain ⟨n,hn⟩:∃ n,n=l.length:=⟨_,rfl⟩
 have rs:=refC_size hr
 have r1:=ref1 r
 have rdg:=ref_dgRow hr
 have hrl:=hr.dg
 obtain ⟨M,hM⟩:∃ M,M=refC r:=⟨_,rfl⟩
 rw [←hM] at rs r1 rdg ⊢
 obtain ⟨C,hC⟩:∃ C,C=(u8s key).toArray:=⟨_,rfl⟩
 have cs:C.size=32:=by rw [hC];simp [u8s_length,lk]
 have hCC:=hC
 rw [←hC]
 have ak:=(at_new w C 26).alloc (.cells M 57)
 have am:At ((w.alloc (.cells C 26)).alloc (.cells M 57)) (w.heap.size+1) M 57:=by
  have h:=at_new (w.alloc (.cells C 26)) M 57
  simpa using h
 have ba:Below w.heap.size w ((w.alloc (.cells C 26)).alloc (.cells M 57)):=((Below.refl _ _).alloc (Nat.le_refl _) _).alloc (by simp) _
 by_cases h1:l.length=256
 ·by_cases h2:block < 0
  ·have e0:openR key r block l=([],1):=by simp [openR,sealBad,h2]
   rw [e0,h1]
   have BA:=zh ba
   clear ba ak am hv hn e0 hC hCC hM rs r1 rdg cs lk hr hrl
   go_enter Tryz.func59,Tryz.ntmps59
   go_wp2_with fail
   go_ret2
   exact ⟨_,rfl,OwnB.nil _ _,BA.out⟩
  ·have hsm:∀ wx,Sl wx (.slice a0 256 c0) l→Calls Tryz.prog 71 #[.slice a0 256 c0] wx fun e w'=>e=.returned (.agg (dgOf l))∧Below wx.heap.size wx w':=fun wx h=>rsum_any l _ wx h (by omega)
   have hne:=fun (x y:Operand) wx=>neqDg (digestOf l) r.dg (digestOf_length l) hrl x y wx
   have hbad:sealBad block l=false:=by simp [sealBad,h1,h2]
   obtain ⟨D,hD⟩:∃ D,D=(u8s (digestOf l)).toArray:=⟨_,rfl⟩
   obtain ⟨E,hE⟩:∃ E,E=(u8s r.dg).toArray:=⟨_,rfl⟩
   have hDD:dgOf l=D:=by rw [hD];rfl
   rw [hDD] at hsm
   rw [←hD,←hE] at hne
   rw [←hE] at rdg
   rw [h1] at hv ⊢
   by_cases h3:digestOf l=r.dg
   ·have e0:openR key r block l=(sealL key r.ep block l,0):=by simp [openR,hbad,h3]
    rw [e0]
    have hb:(!(digestOf l == r.dg))=false:=by simp [h3]
    rw [hb] at hne
    obtain ⟨bb,hbb⟩:∃ bb,bb=BitVec.ofNat 64 block.toNat:=⟨_,rfl⟩
    obtain ⟨ep,hep⟩:∃ ep,ep=r.ep:=⟨_,rfl⟩
    have cv:=fun wx=>conv_i64u block bb hbb (by omega) hbk wx
    have non:=fun wx=>rnonce_any ep bb wx
    have rt:∀ wx,Sl wx (.slice a0 256 c0) l→Calls Tryz.prog 72 #[.agg C,.agg (ncOf ep bb),.int .u32 0,.slice a0 256 c0] wx (ROEnd wx (sealL key ep block l)):=fun wx h=>by
     have k:=rturned_own key (cnonce ep bb) 0 l _ lk (cnonce_length _ _) hp wx h
     unfold sealL
     rw [←hbb,hCC]
     exact k
    rw [←hep] at r1 ⊢
    obtain ⟨L,hL⟩:∃ L,L=sealL key ep block l:=⟨_,rfl⟩
    rw [←hL] at rt ⊢
    obtain ⟨nc,hnc⟩:∃ nc,nc=ncOf ep bb:=⟨_,rfl⟩
    rw [←hnc] at non rt
    have CV:=zh cv;have NON:=zh non;have RT:=zh rt;have CS:=zh cs;have A1:=zh ak;have A2:=zh am;have BA:=zh ba;have S1:=zh (hv.below ba);have SM:=zh hsm;have NE:=zh hne;have RS:=zh rs;have R1:=zh r1;have RDG:=zh rdg
    clear cv non rt cs ak am ba hv hC hCC hM rs r1 rdg hL hbb e0 h1 hn lk hp hsm hne hD hE hDD hb h3 hep hnc hr hrl hbad hbk
    go_enter Tryz.func59,Tryz.ntmps59
    go_wp2_with fail
    obtain ⟨b1,hb1⟩:∃ b1,b1=w.heap.size:=⟨_,rfl⟩
    rw [←hb1] at A1 A2 ⊢
    clear hb1
    generalize (w.alloc (.cells C 26)).alloc (.cells M 57)=w1 at *
    have B1:Hid (Below w1.heap.size w1 w1.drew):=zh (Below.refl _ _).drew
    refine wp_region_plan_in (fun x=>Below w1.heap.size w1 x) (.take 0 (.take 2 (.take 3 (.sole 1 (.take 4 .done))))) (by kernel_rfl) (by kernel_rfl) (by kernel_rfl) B1.out ?_
    (first | refine Mem.pm1 ?_ | refine Mem.pm2 ?_ | refine Mem.pt ?_ | refine Mem.pf ?_)
    (simp only [Mem.zp,Mem.pb,Mem.pc])
    refine plan_field 57 _ 2 (b1+1) 0 ⟨b1+1,2,none⟩ zr zr zr ze (fun wx=>by go_simp) ?_
    (simp only [Mem.zp,Mem.pb,Mem.pc])
    refine plan_row_at 26 _ (b1+1) 2 32 _ M E 57 zr zr zr ze (fun w' hw'=>A2.out.below hw' A2.out.lt) Tryz.underlying26 zr infoDg (by rw [RS.out];decide) RDG.out ?_
    (simp only [Mem.zp,Mem.pb,Mem.pc])
    refine plan_call 71 _ _ _ (by kernel_rfl) zr zr zr (by first | exact Mem.ev_none _ | (simp only [List.map_toArray,List.map_cons,List.map_nil,Mem.ev_tmp,List.getD_cons_succ,List.getD_cons_zero] <;> rfl)) ?_
    refine (SM.out _ (S1.out.below B1.out)).mono ?_
    rintro o3 w2 ⟨rfl,hb⟩
    have B2:Hid (Below w1.heap.size w1 w2):=zh (B1.out.trans (hb.mono B1.out.size))
    clear hb
    refine ⟨_,rfl,B2.out,?_⟩
    (simp only [Mem.zp,Mem.pb,Mem.pc])
    refine plan_bin _ _ _ _ _ _ _ (.bool false) zr zr zr ze ze (fun wx=>NE.out _ _ wx) ?_
    (simp only [Mem.zp,Mem.pb,Mem.pc])
    refine plan_nil ?_
    go_wp2_with fail
    generalize w2=w2 at *
    have B1:Hid (Below w1.heap.size w1 w2.drew):=zh B2.out.drew
    clear B2
    refine wp_region_plan_in (fun x=>Below w1.heap.size w1 x) (.take 0 (.take 1 (.take 2 (.take 3 (.take 4 (.take 6 (.sole 5 (.sole 7 (.take 8 (.take 9 .done)))))))))) (by kernel_rfl) (by kernel_rfl) (by kernel_rfl) B1.out ?_
    refine plan_row 26 _ b1 _ C 26 zr zr zr ze (fun w' hw'=>A1.out.below hw' A1.out.lt) Tryz.underlying26 zr (by rw [CS.out];exact infoDg) ?_
    (simp only [Mem.zp,Mem.pb,Mem.pc])
    refine plan_field 57 _ 1 (b1+1) 0 ⟨b1+1,1,none⟩ zr zr zr ze (fun wx=>by go_simp) ?_
    (simp only [Mem.zp,Mem.pb,Mem.pc])
    refine plan_cell 30 _ _ (.int .u32 (V ep)) _ zr zr zr ze (fun w' hw'=>by rw [(A2.out.below hw' A2.out.lt).cell];exact R1.out) Tryz.underlying30 zr ?_
    (simp only [Mem.zp,Mem.pb,Mem.pc])
    (first | refine Mem.pm1 ?_ | refine Mem.pm2 ?_ | refine Mem.pt ?_ | refine Mem.pf ?_)
    (simp only [Mem.zp,Mem.pb,Mem.pc])
    refine plan_conv 3 126 _ (.int .i64 block) (.int .u64 (bb.toNat:Int)) zr zr zr ze (fun wx=>CV.out wx) ?_
    (simp only [Mem.zp,Mem.pb,Mem.pc])
    (first | refine Mem.pm1 ?_ | refine Mem.pm2 ?_ | refine Mem.pt ?_ | refine Mem.pf ?_)
    (simp only [Mem.zp,Mem.pb,Mem.pc])
    refine plan_call 73 _ _ _ (by kernel_rfl) zr zr zr (by first | exact Mem.ev_none _ | (simp only [List.map_toArray,List.map_cons,List.map_nil,Mem.ev_tmp,List.getD_cons_succ,List.getD_cons_zero] <;> rfl)) ?_
    refine (NON.out _).mono ?_
    rintro o2 w3 ⟨rfl,hb⟩
    have B2:Hid (Below w1.heap.size w1 w3):=zh (B1.out.trans (hb.mono B1.out.size))
    clear hb
    refine ⟨_,rfl,B2.out,?_⟩
    (simp only [Mem.zp,Mem.pb,Mem.pc])
    refine plan_call 72 _ _ _ (by kernel_rfl) zr zr zr (by first | exact Mem.ev_none _ | (simp only [List.map_toArray,List.map_cons,List.map_nil,Mem.ev_tmp,List.getD_cons_succ,List.getD_cons_zero] <;> rfl)) ?_
    refine (RT.out _ (S1.out.below B2.out)).mono ?_
    rintro o3 w4 ⟨v3,rfl,hs,hb⟩
    have B3:Hid (Below w1.heap.size w1 w4):=zh (B2.out.trans (hb.mono B2.out.size))
    have S3:=zh hs
    clear hs hb
    refine ⟨_,rfl,B3.out,?_⟩
    (simp only [Mem.zp,Mem.pb,Mem.pc])
    iterate 2 ((first | refine Mem.pm1 ?_ | refine Mem.pm2 ?_ | refine Mem.pt ?_ | refine Mem.pf ?_);(simp only [Mem.zp,Mem.pb,Mem.pc]))
    refine plan_nil ?_
    go_wp2_with fail
    go_ret2
    exact ⟨_,rfl,ownsRow_base S3.out (Nat.le_trans BA.out.size B2.out.size),BA.out.trans (B3.out.mono BA.out.size)⟩
   ·have e0:openR key r block l=([],9):=by simp [openR,hbad,h3]
    rw [e0]
    have hb:(!(digestOf l == r.dg))=true:=by simp [h3]
    rw [hb] at hne
    have CS:=zh cs;have A1:=zh ak;have A2:=zh am;have BA:=zh ba;have S1:=zh (hv.below ba);have SM:=zh hsm;have NE:=zh hne;have RS:=zh rs;have RDG:=zh rdg
    clear cs ak am ba hv hC hCC hM rs r1 rdg e0 h1 hn lk hp hsm hne hD hE hDD hb h3 hr hrl hbad hbk
    go_enter Tryz.func59,Tryz.ntmps59
    go_wp2_with fail
    obtain ⟨b1,hb1⟩:∃ b1,b1=w.heap.size:=⟨_,rfl⟩
    rw [←hb1] at A1 A2 ⊢
    clear hb1
    generalize (w.alloc (.cells C 26)).alloc (.cells M 57)=w1 at *
    have B1:Hid (Below w1.heap.size w1 w1.drew):=zh (Below.refl _ _).drew
    refine wp_region_plan_in (fun x=>Below w1.heap.size w1 x) (.take 0 (.take 2 (.take 3 (.sole 1 (.take 4 .done))))) (by kernel_rfl) (by kernel_rfl) (by kernel_rfl) B1.out ?_
    (first | refine Mem.pm1 ?_ | refine Mem.pm2 ?_ | refine Mem.pt ?_ | refine Mem.pf ?_)
    (simp only [Mem.zp,Mem.pb,Mem.pc])
    refine plan_field 57 _ 2 (b1+1) 0 ⟨b1+1,2,none⟩ zr zr zr ze (fun wx=>by go_simp) ?_
    (simp only [Mem.zp,Mem.pb,Mem.pc])
    refine plan_row_at 26 _ (b1+1) 2 32 _ M E 57 zr zr zr ze (fun w' hw'=>A2.out.below hw' A2.out.lt) Tryz.underlying26 zr infoDg (by rw [RS.out];decide) RDG.out ?_
    (simp only [Mem.zp,Mem.pb,Mem.pc])
    refine plan_call 71 _ _ _ (by kernel_rfl) zr zr zr (by first | exact Mem.ev_none _ | (simp only [List.map_toArray,List.map_cons,List.map_nil,Mem.ev_tmp,List.getD_cons_succ,List.getD_cons_zero] <;> rfl)) ?_
    refine (SM.out _ (S1.out.below B1.out)).mono ?_
    rintro o3 w2 ⟨rfl,hb⟩
    have B2:Hid (Below w1.heap.size w1 w2):=zh (B1.out.trans (hb.mono B1.out.size))
    clear hb
    refine ⟨_,rfl,B2.out,?_⟩
    (simp only [Mem.zp,Mem.pb,Mem.pc])
    refine plan_bin _ _ _ _ _ _ _ (.bool true) zr zr zr ze ze (fun wx=>NE.out _ _ wx) ?_
    (simp only [Mem.zp,Mem.pb,Mem.pc])
    refine plan_nil ?_
    go_wp2_with fail
    go_ret2
    exact ⟨_,rfl,OwnB.nil _ _,BA.out.trans (B2.out.mono BA.out.size)⟩
 ·have h1':¬ (n:Int)=256:=by omega
  have e0:openR key r block l=([],1):=by simp [openR,sealBad,h1]
  rw [e0,←hn]
  have BA:=zh ba
  clear ba ak am hv hn e0 hC hCC hM rs r1 rdg cs lk hr hrl h1 hp
  go_enter Tryz.func59,Tryz.ntmps59
  go_wp2_with fail
  go_ret2
  exact ⟨_,rfl,OwnB.nil _ _,BA.out⟩
end Sha
end Go.Proofs.YtddjdaocdfkgeaaGreatDoor
