/- My own texts, merged. -/
import Derived.Test.YtplmfmpbkjnbaaaGreatDoorBQ28
import Derived.Deep.DeepCutAuto
import Derived.Test.YtplmfmpbkjnbaaaGreatDoorBQ08
import Derived.Test.YtplmfmpbkjnbaaaGreatDoorBQ00
set_option maxRecDepth 100000
set_option maxHeartbeats 2000000
namespace Go.Proofs.YtplmfmpbkjnbaaaGreatDoor
namespace Sha
open Go.RowKit Mem
theorem wpList_slice_arr_mid {P:Program} {ops:Array Oper} {rest:List Oper} {op:Oper} {a:Act} {w:World} {Q:Exit→Act→World→Prop} (hgd:op.guard=none) (ty:TypeId) (x i j:Operand) (ho:op.op=.slice ty x (some i) (some j) none)
 (elem:TypeId) (n:Nat) (hu:P.underlying ty=some (.array n elem)) (hs:(P.info? elem).map (·.size)=some 1) (b k l:Nat) (hx:a.eval x=.pointer (some ⟨b,0,none⟩)) (hi:a.eval i=.int .i64 (k:Int)) (hj:a.eval j=.int .i64 (l:Int)) (hk:k≤l) (hl:l≤n) (hkc:k < n)
 (h:wpList P ops Q rest (a.put op.dst (.slice (some ⟨b,k,none⟩) (l - k) (n - k))) w):wpList P ops Q (op::rest) a w:=by
 refine wpList_plain hgd fun K hK=>?_
 cases hq:P.info? elem with
 | none=>simp [hq] at hs
 | some q=>
  have hs1:q.size=1:=by simpa [hq] using hs
  have hne:¬ n=k:=by omega
  have hkl:(k:Int)≤(l:Int):=by omega
  have hlc:(l:Int)≤(n:Int):=by omega
  have had:(⟨b,0,none⟩:Addr).add k=⟨b,k,none⟩:=by simp [Addr.add];omega
  have hat:(Instr.sliceAt ty (.pointer (some ⟨b,0,none⟩)) (some (.int .i64 (k:Int))) (some (.int .i64 (l:Int))) none).run P w=.ok (.slice (some ⟨b,k,none⟩) (l - k) (n - k)) w:=by
   simp [Instr.sliceAt,Instr.sureAddr,Instr.sliceBounds,Instr.sliceBound,asIntOf,Sem.run_bind,run_underlying hu,sizeOf,typeInfo,hq,hs1,hk,hl,hne,had]
  unfold Oper.wp execOp
  simp only [ho,hx,hi,hj,Option.map_some,Option.map_none,Sem.run_bind,hat,Result.andThen_ok,Sem.run_pure]
  exact hK _ _ h
theorem elemW4:elemB Tryz.prog 216 23 (.int .u32 0) 4:=⟨Tryz.underlying216,by kernel_rfl⟩
theorem u32s_snoc (l:List (BitVec 32)) (x:BitVec 32):u32s (l++[x])=u32s l++[.int .u32 (V x)]:=by simp [u32s]
theorem at_mid4 {w:World} {b n i:Nat} {l:Lb8} {t:TypeId} (h:At w b (u8s l).toArray t) (hl:l.length=n) (hi:4*i+4≤n) :
 Sl w (.slice (some ⟨b,4*i,none⟩) (4*i+4 - 4*i) (n - 4*i)) ((l.drop (4*i)).take 4):=by
 have hlen:((l.drop (4*i)).take 4).length=4:=by rw [List.length_take,List.length_drop];omega
 refine ⟨_,_,by rw [hlen,show 4*i+4 - 4*i=4 by omega],by rw [hlen];omega,fun _=>⟨b,4*i,rfl,h.lt,fun k hk=>?_⟩⟩
 rw [hlen] at hk
 rw [h.cell,List.getElem?_toArray,u8s_get l (4*i+k) (by omega)]
 simp [List.getD_eq_getElem?_getD,hk]
theorem lew_mid (l:Lb8) (i:Nat) (_h:4*i+4≤l.length):lew ((l.drop (4*i)).take 4) 0=lew l i:=by
 simp [lew,List.getD_eq_getElem?_getD]
theorem own_cells {w:World} {B:Nat} {e:TypeId} {v:Value} {xs:List Value} (h:OwnV w B e v xs) (hne:xs≠[]):∃ g cap J,v=.slice (some ⟨g,0,none⟩) xs.length cap∧xs.length≤cap∧B≤g∧At w g (xs++J).toArray e:=by
 obtain ⟨_,h | ⟨g,cap,cur,rfl,hg,hh,hn,hc,hs,ht⟩⟩:=h
 ·obtain ⟨_,h0⟩:=h
  exact absurd (List.eq_nil_of_length_eq_zero h0) hne
 ·refine ⟨g,cap,cur.toList.drop xs.length,rfl,hn,hg,?_⟩
  rw [Nat.mul_one] at ht
  have e1:xs++cur.toList.drop xs.length=cur.toList:=by
   have h2:=List.take_append_drop xs.length cur.toList
   rw [ht] at h2;exact h2
  rw [e1,Array.toArray_toList]
  exact hh
theorem app_get (L:List (BitVec 32)) (J:List Value) (i:Nat) (h:i < L.length):(u32s L++J).toArray[i]?=some (.int .u32 (V (L.getD i 0))):=by
 rw [List.getElem?_toArray,List.getElem?_append_left (by rw [u32s_length];exact h)]
 exact u32s_get L i h
theorem app_set (L:List (BitVec 32)) (J:List Value) (i:Nat) (x:BitVec 32) (h:i < L.length):(u32s L++J).toArray.setIfInBounds i (.int .u32 (V x))=(u32s (L.set i x)++J).toArray:=by
 rw [List.setIfInBounds_toArray,List.set_append_left _ _ (by rw [u32s_length];exact h)]
 congr 2
 simp [u32s,List.map_set]
theorem app_size (L:List (BitVec 32)) (J:List Value):(u32s L++J).toArray.size=L.length+J.length:=by simp [u32s]
structure W3 (L:List (BitVec 32)) (J:List Value) (bw:Nat) (w wA wr:World):Prop where
 a:At wr bw (u32s L++J).toArray 23
 o:But bw wA wr
 b:Below w.heap.size w wr
structure W6 (L:Lb8) (bo:Nat) (w wA wr:World):Prop where
 a:At wr bo (u8s L).toArray 259
 o:But bo wA wr
 b:Below w.heap.size w wr
def OneAtQ (w:World) (C:Array Value) (t:TypeId) (x:Value) (wr:World):Prop:=∃ b,x=.pointer (some ⟨b,0,none⟩)∧w.heap.size≤b∧At wr b C t∧Below w.heap.size w wr
theorem run_allocQ (w:World):(Instr.alloc 286 true (.tuple #[])).run Tryz.prog w=.ok (.pointer (some ⟨w.heap.size,0,none⟩)) (w.alloc (.cells Z4 286)):=by kernel_rfl
theorem plc_cell (pb m:Nat) (h:m < 8):((List.range 8).map (plcRow pb)).toArray[m]?=some (.slice (some ⟨pb+m,0,none⟩) 4 4):=by
 simp [h,plcRow]
structure FRel (C D:Array Value) (X:Array Value) (W:List (BitVec 32)) (v:Value) (w wr:World):Prop where
 c:At wr w.heap.size C 22
 d:At wr (w.heap.size+1) D 214
 r:At wr (w.heap.size+1+1) X 259
 f:OwnV wr (w.heap.size+1+1+1) 23 v (u32s W)
 b:Below w.heap.size w wr
def fkey (key:Lb8) (j:Nat):List (BitVec 32):=[1634760805,857760878,2036477234,1797285236]++(List.range j).map (lew key)
theorem fkey_next (key:Lb8) (j:Nat):fkey key (j+1)=fkey key j++[lew key j]:=by simp [fkey,List.range_succ]
theorem fkey_length (key:Lb8) (j:Nat):(fkey key j).length=j+4:=by simp [fkey]
def fnon (key nonce:Lb8) (n:BitVec 32) (j:Nat):List (BitVec 32):=fkey key 8++[n]++(List.range j).map (lew nonce)
theorem fnon_next (key nonce:Lb8) (n:BitVec 32) (j:Nat):fnon key nonce n (j+1)=fnon key nonce n j++[lew nonce j]:=by simp [fnon,List.range_succ]
theorem fnon_length (key nonce:Lb8) (n:BitVec 32) (j:Nat):(fnon key nonce n j).length=j+13:=by simp [fnon,fkey_length];omega
theorem fnon_all (key nonce:Lb8) (n:BitVec 32):fnon key nonce n 3=cfirst key nonce n:=rfl
theorem rblk_any (key nonce:Lb8) (n:BitVec 32) (lk:key.length=32) (ln:nonce.length=12) (w:World) :
 Calls Tryz.prog 176 #[.agg (u8s key).toArray,.agg (u8s nonce).toArray,.int .u32 (V n)] w fun o w'=>o=.returned (.agg (u8s (cblk key nonce n)).toArray)∧Below w.heap.size w w':=by
 obtain ⟨X,hX⟩:∃ X,X=CZ64:=⟨_,rfl⟩
 have hx:=czero64
 rw [←hX] at hx
 have hXs:X.size=64:=by rw [hX];simp [CZ64,u8s]
 obtain ⟨C,hC⟩:∃ C,C=(u8s key).toArray:=⟨_,rfl⟩
 obtain ⟨D,hD⟩:∃ D,D=(u8s nonce).toArray:=⟨_,rfl⟩
 rw [←hC,←hD]
 have hI:FRel C D X (fkey key 0) (.slice (some ⟨w.heap.size+1+1+1,0,none⟩) 4 4) w ((((w.alloc (.cells C 22)).alloc (.cells D 214)).alloc (.cells X 259)).alloc (.cells #[.int .u32 1634760805,.int .u32 857760878,.int .u32 2036477234,.int .u32 1797285236] 23)):=by
  refine ⟨((at_new w C _).alloc _).alloc _ |>.alloc _,?_,?_,?_,((((Below.refl _ _).alloc (Nat.le_refl _) _).alloc (by simp) _).alloc (by simp;omega) _).alloc (by simp;omega) _⟩
  ·have h:=((at_new (w.alloc (.cells C 22)) D 214).alloc (.cells X 259)).alloc (.cells #[.int .u32 1634760805,.int .u32 857760878,.int .u32 2036477234,.int .u32 1797285236] 23)
   simpa using h
  ·have h:=(at_new ((w.alloc (.cells C 22)).alloc (.cells D 214)) X 259).alloc (.cells #[.int .u32 1634760805,.int .u32 857760878,.int .u32 2036477234,.int .u32 1797285236] 23)
   simpa using h
  ·have h:=World.ownsRow_lit (base:=w.heap.size+1+1+1) (e:=23) (size:=1) (((w.alloc (.cells C 22)).alloc (.cells D 214)).alloc (.cells X 259)) #[.int .u32 1634760805,.int .u32 857760878,.int .u32 2036477234,.int .u32 1797285236] 4 (by simp) (by decide) (by decide)
   simp at h
   have e:u32s (fkey key 0)=[.int .u32 1634760805,.int .u32 857760878,.int .u32 2036477234,.int .u32 1797285236]:=rfl
   rw [e]
   exact h
 have KEY:=zh lk;have NON:=zh ln;have HI:=zh hI;have HC:=zh hC;have HD:=zh hD;have XS:=zh hXs
 have WORD:=zh rword_any
 clear lk ln hI hC hD hXs hX
 go_enter Tryz.func176,Tryz.ntmps176
 go_wp2_with fail
 generalize (((w.alloc (.cells C 22)).alloc (.cells D 214)).alloc (.cells X 259)).alloc _=w4 at *
 clear hx
 go_loopw [7,8] (fun v i wr=>∃ j:Nat,j≤8∧i=.int .i64 j∧FRel C D X (fkey key j) v w wr) (fun _ i _=>8 - (intOf i).toNat)
 case atStart=>exact ⟨0,by omega,rfl,HI.out⟩
 case round=>
  clear HI
  obtain ⟨j,hj,rfl,hI⟩:=hrel
  by_cases hlt:j < 8
  ·have hsl:=at_mid4 (i:=j) (by rw [←HC.out];exact hI.c) KEY.out (by omega)
   have hw:=fun wx (hb:Below wr.heap.size wr wx)=>WORD.out _ _ wx (hsl.below hb) (by rw [List.length_take,List.length_drop,KEY.out];omega)
   rw [lew_mid key j (by rw [KEY.out];omega),show 4*j+4 - 4*j=4 by omega] at hw
   have hnx:u32s (fkey key (j+1))=u32s (fkey key j)++[.int .u32 (V (lew key j))]:=by rw [fkey_next,u32s_snoc]
   have hfl:(u32s (fkey key j)).length=j+4:=by rw [u32s_length,fkey_length]
   obtain ⟨F,hF⟩:∃ F,F=u32s (fkey key j):=⟨_,rfl⟩
   obtain ⟨x,hxx⟩:∃ x,x=lew key j:=⟨_,rfl⟩
   have how:=hI.f
   rw [←hF] at hnx hfl how
   rw [←hxx] at hnx hw
   have hlt':(j:Int) < 8:=by omega
   have FL:=zh hfl;have NX:=zh hnx;have OW:=zh how;have CC:=zh hI.c;have DD:=zh hI.d;have RR:=zh hI.r;have BB:=zh hI.b;have HW:=zh hw
   clear hsl hw hnx hfl how hI hF hxx
   go_wp2_with (first | (refine wpList_slice_arr_mid zr 22 _ _ _ zr 5 32 Tryz.underlying22 infoB w.heap.size (4*j) (4*j+4) zr (by exact congrArg (Value.int .i64) (by omega)) (by exact congrArg (Value.int .i64) (by omega)) (by omega) (by omega) (by omega) ?_))
   refine (HW.out _ (Below.refl _ _)).mono ?_
   rintro e w' ⟨rfl,hb⟩
   have OW2:=zh (OW.out.below hb);have CC2:=zh (CC.out.below hb CC.out.lt);have DD2:=zh (DD.out.below hb DD.out.lt);have RR2:=zh (RR.out.below hb RR.out.lt);have BB2:=zh (BB.out.trans (hb.mono BB.out.size))
   clear hb HW OW CC DD RR BB
   go_wp2_with (first | (at_builtin;refine wpList_append_lit zr _ _ 216 zr (.int .u32 (V x)) (.int .u32 0) 4 elemW4 zr zr OW2.out zr zr (by rw [FL.out];omega) (by rw [FL.out];omega) (by have:=RR2.out.lt;omega) ?_;intro v' w' ho' _ hb' _;have OW3:=zh ho';have CC3:=zh (CC2.out.below hb' (by omega));have DD3:=zh (DD2.out.below hb' (by omega));have RR3:=zh (RR2.out.below hb' (by omega));have BB3:=zh (BB2.out.trans (hb'.mono (by omega)));clear ho' hb'))
   go_roundw
   case rel=>exact ⟨j+1,by omega,by go_num,⟨CC3.out,DD3.out,RR3.out,by rw [NX.out];exact OW3.out,BB3.out⟩⟩
   case measure=>simp [intOf];omega
  ·have hj8:j=8:=by omega
   rw [hj8] at hI
   have hge:¬ (j:Int) < 8:=by omega
   have hnx:u32s (fnon key nonce n 0)=u32s (fkey key 8)++[.int .u32 (V n)]:=by rw [fnon];simp [u32s]
   have hfl:(u32s (fkey key 8)).length=12:=by rw [u32s_length,fkey_length]
   obtain ⟨F,hF⟩:∃ F,F=u32s (fkey key 8):=⟨_,rfl⟩
   have how:=hI.f
   rw [←hF] at hnx hfl how
   have FL:=zh hfl;have NX:=zh hnx;have OW:=zh how;have CC:=zh hI.c;have DD:=zh hI.d;have RR:=zh hI.r;have BB:=zh hI.b
   clear hnx hfl how hI hF hj8 hlt hj
   go_wp2_with (first | (at_builtin;refine wpList_append_lit zr _ _ 216 zr (.int .u32 (V n)) (.int .u32 0) 4 elemW4 zr zr OW.out zr zr (by rw [FL.out];omega) (by rw [FL.out];omega) (by have:=RR.out.lt;omega) ?_;intro v' w' ho' _ hb' _;have OW3:=zh ho';have CC3:=zh (CC.out.below hb' (by omega));have DD3:=zh (DD.out.below hb' (by omega));have RR3:=zh (RR.out.below hb' (by omega));have BB3:=zh (BB.out.trans (hb'.mono (by omega)));clear ho' hb'))
   clear CC DD RR BB OW
   rename_i v2 w2
   go_loopw [7,9] (fun v i wr=>∃ j:Nat,j≤3∧i=.int .i64 j∧FRel C D X (fnon key nonce n j) v w wr) (fun _ i _=>3 - (intOf i).toNat)
   case atStart=>exact ⟨0,by omega,rfl,⟨CC3.out,DD3.out,RR3.out,by rw [NX.out];exact OW3.out,BB3.out⟩⟩
   case round=>
    clear CC3 DD3 RR3 BB3 OW3 NX FL
    obtain ⟨k,hk,rfl,hI⟩:=hrel
    by_cases hlt:k < 3
    ·have hsl:=at_mid4 (i:=k) (by rw [←HD.out];exact hI.d) NON.out (by omega)
     have hw:=fun wx (hb:Below wr.heap.size wr wx)=>WORD.out _ _ wx (hsl.below hb) (by rw [List.length_take,List.length_drop,NON.out];omega)
     rw [lew_mid nonce k (by rw [NON.out];omega),show 4*k+4 - 4*k=4 by omega] at hw
     have hnx:u32s (fnon key nonce n (k+1))=u32s (fnon key nonce n k)++[.int .u32 (V (lew nonce k))]:=by rw [fnon_next,u32s_snoc]
     have hfl:(u32s (fnon key nonce n k)).length=k+13:=by rw [u32s_length,fnon_length]
     obtain ⟨F,hF⟩:∃ F,F=u32s (fnon key nonce n k):=⟨_,rfl⟩
     obtain ⟨x,hxx⟩:∃ x,x=lew nonce k:=⟨_,rfl⟩
     have how:=hI.f
     rw [←hF] at hnx hfl how
     rw [←hxx] at hnx hw
     have hlt':(k:Int) < 3:=by omega
     have FL:=zh hfl;have NX:=zh hnx;have OW:=zh how;have CC:=zh hI.c;have DD:=zh hI.d;have RR:=zh hI.r;have BB:=zh hI.b;have HW:=zh hw
     clear hsl hw hnx hfl how hI hF hxx
     go_wp2_with (first | (refine wpList_slice_arr_mid zr 214 _ _ _ zr 5 12 Tryz.underlying214 infoB (w.heap.size+1) (4*k) (4*k+4) zr (by exact congrArg (Value.int .i64) (by omega)) (by exact congrArg (Value.int .i64) (by omega)) (by omega) (by omega) (by omega) ?_))
     refine (HW.out _ (Below.refl _ _)).mono ?_
     rintro e w' ⟨rfl,hb⟩
     have OW2:=zh (OW.out.below hb);have CC2:=zh (CC.out.below hb CC.out.lt);have DD2:=zh (DD.out.below hb DD.out.lt);have RR2:=zh (RR.out.below hb RR.out.lt);have BB2:=zh (BB.out.trans (hb.mono BB.out.size))
     clear hb HW OW CC DD RR BB
     go_wp2_with (first | (at_builtin;refine wpList_append_lit zr _ _ 216 zr (.int .u32 (V x)) (.int .u32 0) 4 elemW4 zr zr OW2.out zr zr (by rw [FL.out];omega) (by rw [FL.out];omega) (by have:=RR2.out.lt;omega) ?_;intro v' w' ho' _ hb' _;have OW3:=zh ho';have CC3:=zh (CC2.out.below hb' (by omega));have DD3:=zh (DD2.out.below hb' (by omega));have RR3:=zh (RR2.out.below hb' (by omega));have BB3:=zh (BB2.out.trans (hb'.mono (by omega)));clear ho' hb'))
     go_roundw
     case rel=>exact ⟨k+1,by omega,by go_num,⟨CC3.out,DD3.out,RR3.out,by rw [NX.out];exact OW3.out,BB3.out⟩⟩
     case measure=>simp [intOf];omega
    ·have hk3:k=3:=by omega
     rw [hk3,fnon_all] at hI
     have hge:¬ (k:Int) < 3:=by omega
     obtain ⟨cf,hcf⟩:∃ cf,cf=cfirst key nonce n:=⟨_,rfl⟩
     rw [←hcf] at hI
     have lcf:cf.length=16:=by rw [hcf];exact cfirst_length _ _ _
     obtain ⟨bf,capf,Jf,rfl,hcapf,hbf,hfa⟩:=own_cells hI.f (by intro h0;have h1:=congrArg List.length h0;rw [u32s_length,lcf] at h1;cases h1)
     have hrd:=hI.f.rd
     have hfl:(u32s cf).length=16:=by rw [u32s_length,lcf]
     have hfc:=u32s_cells cf
     obtain ⟨U,hU⟩:∃ U,U=u32s cf:=⟨_,rfl⟩
     rw [←hU] at hrd hfl hfc hcapf ⊢
     rw [hfl] at hrd hcapf ⊢
     have RD:=zh hrd;have UL:=zh hfl;have UC:=zh hfc;have HU:=zh hU;have FA:=zh hfa;have RR:=zh hI.r;have BB:=zh hI.b;have LCF:=zh lcf;have HCF:=zh hcf;have BF:=zh hbf
     clear hI hk3 hlt hk hcf lcf hrd hfl hfc hU hfa hbf WORD HC HD
     go_wp2_with (first | (at_builtin;refine wpList_append_rd (B:=wr.heap.size) zr _ _ 216 zr _ U (.int .u32 0) 4 elemW4 zr zr (OwnV.nil _ _ _) zr RD.out UC.out (by rw [UL.out];decide) (by rw [UL.out];decide) (Nat.le_refl _) ?_;intro v5 w5 ho5 _ hb5 _;have OV:=zh ho5;have FA5:=zh (FA.out.below hb5 FA.out.lt);have RR5:=zh (RR.out.below hb5 RR.out.lt);have BB5:=zh (BB.out.trans (hb5.mono BB.out.size));clear ho5 hb5))
     obtain ⟨bw,capw,Jw,rfl,hcapw,hbw,hwa⟩:=own_cells OV.out (by intro h0;have h1:=congrArg List.length h0;rw [List.nil_append,UL.out] at h1;cases h1)
     rw [List.nil_append] at hcapw hwa
     rw [List.nil_append,UL.out]
     rw [UL.out] at hcapw
     rw [HU.out] at hwa
     have BWF:Hid (bf≠bw):=by have:=FA.out.lt;show bf≠bw;omega
     have BWR:Hid (w.heap.size+1+1≠bw):=by have:=RR.out.lt;show w.heap.size+1+1≠bw;omega
     have BWL:Hid (w.heap.size≤bw):=Nat.le_trans BB.out.size hbw
     have I3:Hid (W3 (all8 cf 0) Jw bw w w5 w5):=⟨hwa,But.refl _ _,BB5.out⟩
     clear hbw hwa OV RD UC FA RR BB HU UL
     generalize wr.heap.size=hs0 at *
     go_loopw [11,13,14,15] (fun i _ _ _ wr=>∃ r:Nat,r≤10∧i=.int .i64 r∧W3 (all8 cf r) Jw bw w w5 wr) (fun i _ _ _ _=>10 - (intOf i).toNat)
     case atStart=>exact ⟨0,by omega,rfl,I3.out⟩
     case round=>
      clear I3
      obtain ⟨r,hr,rfl,hI⟩:=hrel
      by_cases hlt:r < 10
      ·obtain ⟨L,hLL⟩:∃ L,L=all8 cf r:=⟨_,rfl⟩
       have hnext:some8 L 8=all8 cf (r+1):=by rw [hLL];rfl
       have lL:L.length=16:=by rw [hLL,all8_length];exact LCF.out
       rw [←hLL] at hI
       have II:=zh hI;have NX:=zh hnext;have LL:=zh lL
       have hlt':(r:Int) < 10:=by omega
       clear hI hnext lL hLL
       go_wp2_with fail
       refine (places_any _).mono ?_
       rintro e w6 ⟨rfl,hp6,hb6⟩
       have O6:=zh (II.out.o.below hb6)
       have I4:Hid (W3 (some8 L 0) Jw bw w w6 w6):=⟨II.out.a.below hb6 II.out.a.lt,But.refl _ _,II.out.b.trans (hb6.mono II.out.b.size)⟩
       have BWP:Hid (bw < wr.heap.size):=II.out.a.lt
       have PL6:=zh hp6
       clear hp6 hb6 II
       generalize wr.heap.size=pb at *
       go_wp2_with fail
       go_loopw [13,14,15,61] (fun _ _ _ i wr=>∃ m:Nat,m≤8∧i=.int .i64 m∧W3 (some8 L m) Jw bw w w6 wr) (fun _ _ _ i _=>8 - (intOf i).toNat)
       case atStart=>exact ⟨0,by omega,rfl,I4.out⟩
       case round=>
        clear I4
        obtain ⟨m,hm,rfl,hI⟩:=hrel
        by_cases hlt2:m < 8
        ·obtain ⟨_,p2,p3⟩:=plc_row m hlt2
         have hnx:some8 L (m+1)=qpl (some8 L m) (plc.getD m []):=some8_next L m hlt2
         have l8:(some8 L m).length=16:=by rw [some8_length L m (by omega)];exact LL.out
         have hpm:At wr (pb+m) (ints (plc.getD m [])).toArray 3:=(PL6.out.2 m hlt2).but hI.o (by have:=BWP.out;omega)
         have hc8:wr.cell? ⟨pb+8,m,none⟩=some (.slice (some ⟨pb+m,0,none⟩) 4 4):=by
          rw [(PL6.out.1.but hI.o (by have:=BWP.out;omega)).cell];exact plc_cell pb m hlt2
         obtain ⟨M,hMM⟩:∃ M,M=some8 L m:=⟨_,rfl⟩
         obtain ⟨p,hp⟩:∃ p,p=plc.getD m []:=⟨_,rfl⟩
         rw [←hMM,←hp] at hnx
         rw [←hMM] at l8 hI
         rw [←hp] at p2 p3 hpm
         have q0:=p3 0 (by decide);have q1:=p3 1 (by decide);have q2:=p3 2 (by decide);have q3:=p3 3 (by decide)
         have g0:(ints p).toArray[0]?=some (.int .i64 ((p.getD 0 0:Nat):Int)):=by rw [List.getElem?_toArray];exact ints_get p 0 (by omega)
         have g1:(ints p).toArray[1]?=some (.int .i64 ((p.getD 1 0:Nat):Int)):=by rw [List.getElem?_toArray];exact ints_get p 1 (by omega)
         have g2:(ints p).toArray[2]?=some (.int .i64 ((p.getD 2 0:Nat):Int)):=by rw [List.getElem?_toArray];exact ints_get p 2 (by omega)
         have g3:(ints p).toArray[3]?=some (.int .i64 ((p.getD 3 0:Nat):Int)):=by rw [List.getElem?_toArray];exact ints_get p 3 (by omega)
         have y0:=app_get M Jw (0+p.getD 0 0) (by omega);have y1:=app_get M Jw (0+p.getD 1 0) (by omega);have y2:=app_get M Jw (0+p.getD 2 0) (by omega);have y3:=app_get M Jw (0+p.getD 3 0) (by omega)
         have hq:qin M p=⟨M.getD (0+p.getD 0 0) 0,M.getD (0+p.getD 1 0) 0,M.getD (0+p.getD 2 0) 0,M.getD (0+p.getD 3 0) 0⟩:=by simp only [Nat.zero_add];rfl
         obtain ⟨x0,hx0⟩:∃ x,x=M.getD (0+p.getD 0 0) 0:=⟨_,rfl⟩
         obtain ⟨x1,hx1⟩:∃ x,x=M.getD (0+p.getD 1 0) 0:=⟨_,rfl⟩
         obtain ⟨x2,hx2⟩:∃ x,x=M.getD (0+p.getD 2 0) 0:=⟨_,rfl⟩
         obtain ⟨x3,hx3⟩:∃ x,x=M.getD (0+p.getD 3 0) 0:=⟨_,rfl⟩
         rw [←hx0,←hx1,←hx2,←hx3] at hq
         rw [←hx0] at y0;rw [←hx1] at y1;rw [←hx2] at y2;rw [←hx3] at y3
         obtain ⟨p0,hp0⟩:∃ q,q=p.getD 0 0:=⟨_,rfl⟩
         obtain ⟨p1,hp1⟩:∃ q,q=p.getD 1 0:=⟨_,rfl⟩
         obtain ⟨pp2,hp2⟩:∃ q,q=p.getD 2 0:=⟨_,rfl⟩
         obtain ⟨pp3,hp3⟩:∃ q,q=p.getD 3 0:=⟨_,rfl⟩
         rw [←hp0] at q0 g0 y0;rw [←hp1] at q1 g1 y1;rw [←hp2] at q2 g2 y2;rw [←hp3] at q3 g3 y3
         have hbd:=build_q x0 x1 x2 x3
         have hqu:=fun wx=>rquarter_any (qin M p) wx
         rw [hq] at hqu
         obtain ⟨K,hK⟩:∃ K,K=qOf ⟨x0,x1,x2,x3⟩:=⟨_,rfl⟩
         have hbd2:∀ wx,(Instr.build 286 #[(0,.int .u32 (V x0)),(1,.int .u32 (V x1)),(2,.int .u32 (V x2)),(3,.int .u32 (V x3))]).run Tryz.prog wx=.ok (.agg K) wx:=fun wx=>by rw [hK];exact hbd wx
         obtain ⟨G,hG⟩:∃ G,G=qOf (qr (qin M p)):=⟨_,rfl⟩
         rw [←hK,←hq,←hG] at hqu
         have hGs:G.size=4:=by rw [hG];rfl
         have hGo:G.all (·.oneCell')=true:=by rw [hG];exact qOf_one _
         obtain ⟨Q,hQ⟩:∃ Q,Q=(qr (qin M p)).list:=⟨_,rfl⟩
         have gj:∀ j,j < 4→G[j]?=some (.int .u32 (V (Q.getD j 0))):=by rw [hG,hQ];exact qOf_get _
         have hend:qset M p Q 4=some8 L (m+1):=by rw [hQ,hnx];exact qset_all M p
         obtain ⟨Z,hZ⟩:∃ Z,Z=Z4:=⟨_,rfl⟩
         have hal:=run_allocQ
         rw [←hZ] at hal
         have hZs:Z.size=4:=by rw [hZ];rfl
         have II:=zh hI;have PM:=zh hpm;have P0:=zh g0;have P1:=zh g1;have P2:=zh g2;have P3:=zh g3;have X0:=zh y0;have X1:=zh y1;have X2:=zh y2;have X3:=zh y3
         have BLD:=zh hbd2;have QU:=zh hqu;have GS:=zh hGs;have GO:=zh hGo;have GJ:=zh gj;have EN:=zh hend;have ALL:=zh hal;have ZS:=zh hZs;have HP2:=zh p2;have HP3:=zh p3;have LM:=zh l8
         have hlt3:(m:Int) < 8:=by omega
         clear hI hpm g0 g1 g2 g3 y0 y1 y2 y3 hbd hbd2 hqu hGs hGo gj hend hal hZs hZ hQ hG hK hq hx0 hx1 hx2 hx3 hp0 hp1 hp2 hp3 hnx p2 p3 l8 hMM hp
         go_wp2_with fail
         clear hc8
         go_cut [14] (fun x wx=>OneAtQ wr G 286 x wx)
         case first=>
          refine wp_region_plan ((.take 0 (.take 1 (.take 2 (.take 3 (.take 4 (.take 5 (.take 6 (.take 7 (.take 8 (.take 9 (.take 10 (.take 11 (.take 12 (.take 13 (.take 14 (.take 15 (.take 16 (.take 17 (.take 18 (.take 19 (.take 20 (.take 21 (.take 22 (.take 23 (.take 24 (.two 25 26 (.sole 26 (.sole 27 .done)) (.sole 25 (.sole 27 .done))))))))))))))))))))))))))))) (by kernel_rfl) (by kernel_rfl) (by kernel_rfl) ?_
          iterate 2 ((first | refine Mem.pm1 ?_ | refine Mem.pm2 ?_ | refine Mem.pt ?_ | refine Mem.pf ?_);(simp only [Mem.zp,Mem.pb,Mem.pc]))
          refine plan_index 35 3 _ _ (pb+m) 0 4 4 0 zr zr zr ze zr (by omega) Tryz.underlying35 (by kernel_rfl) ?_
          (simp only [Mem.zp,Mem.pb,Mem.pc])
          refine plan_cell 3 _ _ _ _ zr zr zr ze (fun w' hw'=>((PM.out.below hw' PM.out.lt).cell _).trans P0.out) Tryz.underlying3 zr ?_
          (simp only [Mem.zp,Mem.pb,Mem.pc])
          refine plan_index 216 23 _ _ bw 0 16 capw p0 zr zr zr ze ze (by omega) Tryz.underlying216 (by kernel_rfl) ?_
          (simp only [Mem.zp,Mem.pb,Mem.pc])
          refine plan_cell 23 _ _ _ _ zr zr zr ze (fun w' hw'=>((II.out.a.below hw' II.out.a.lt).cell _).trans X0.out) Tryz.underlying23 zr ?_
          (simp only [Mem.zp,Mem.pb,Mem.pc])
          iterate 2 ((first | refine Mem.pm1 ?_ | refine Mem.pm2 ?_ | refine Mem.pt ?_ | refine Mem.pf ?_);(simp only [Mem.zp,Mem.pb,Mem.pc]))
          refine plan_index 35 3 _ _ (pb+m) 0 4 4 1 zr zr zr ze zr (by omega) Tryz.underlying35 (by kernel_rfl) ?_
          (simp only [Mem.zp,Mem.pb,Mem.pc])
          refine plan_cell 3 _ _ _ _ zr zr zr ze (fun w' hw'=>((PM.out.below hw' PM.out.lt).cell _).trans P1.out) Tryz.underlying3 zr ?_
          (simp only [Mem.zp,Mem.pb,Mem.pc])
          refine plan_index 216 23 _ _ bw 0 16 capw p1 zr zr zr ze ze (by omega) Tryz.underlying216 (by kernel_rfl) ?_
          (simp only [Mem.zp,Mem.pb,Mem.pc])
          refine plan_cell 23 _ _ _ _ zr zr zr ze (fun w' hw'=>((II.out.a.below hw' II.out.a.lt).cell _).trans X1.out) Tryz.underlying23 zr ?_
          (simp only [Mem.zp,Mem.pb,Mem.pc])
          iterate 2 ((first | refine Mem.pm1 ?_ | refine Mem.pm2 ?_ | refine Mem.pt ?_ | refine Mem.pf ?_);(simp only [Mem.zp,Mem.pb,Mem.pc]))
          refine plan_index 35 3 _ _ (pb+m) 0 4 4 2 zr zr zr ze zr (by omega) Tryz.underlying35 (by kernel_rfl) ?_
          (simp only [Mem.zp,Mem.pb,Mem.pc])
          refine plan_cell 3 _ _ _ _ zr zr zr ze (fun w' hw'=>((PM.out.below hw' PM.out.lt).cell _).trans P2.out) Tryz.underlying3 zr ?_
          (simp only [Mem.zp,Mem.pb,Mem.pc])
          refine plan_index 216 23 _ _ bw 0 16 capw pp2 zr zr zr ze ze (by omega) Tryz.underlying216 (by kernel_rfl) ?_
          (simp only [Mem.zp,Mem.pb,Mem.pc])
          refine plan_cell 23 _ _ _ _ zr zr zr ze (fun w' hw'=>((II.out.a.below hw' II.out.a.lt).cell _).trans X2.out) Tryz.underlying23 zr ?_
          (simp only [Mem.zp,Mem.pb,Mem.pc])
          iterate 2 ((first | refine Mem.pm1 ?_ | refine Mem.pm2 ?_ | refine Mem.pt ?_ | refine Mem.pf ?_);(simp only [Mem.zp,Mem.pb,Mem.pc]))
          refine plan_index 35 3 _ _ (pb+m) 0 4 4 3 zr zr zr ze zr (by omega) Tryz.underlying35 (by kernel_rfl) ?_
          (simp only [Mem.zp,Mem.pb,Mem.pc])
          refine plan_cell 3 _ _ _ _ zr zr zr ze (fun w' hw'=>((PM.out.below hw' PM.out.lt).cell _).trans P3.out) Tryz.underlying3 zr ?_
          (simp only [Mem.zp,Mem.pb,Mem.pc])
          refine plan_index 216 23 _ _ bw 0 16 capw pp3 zr zr zr ze ze (by omega) Tryz.underlying216 (by kernel_rfl) ?_
          (simp only [Mem.zp,Mem.pb,Mem.pc])
          refine plan_cell 23 _ _ _ _ zr zr zr ze (fun w' hw'=>((II.out.a.below hw' II.out.a.lt).cell _).trans X3.out) Tryz.underlying23 zr ?_
          (simp only [Mem.zp,Mem.pb,Mem.pc])
          refine plan_build _ _ #[(0,.int .u32 (V x0)),(1,.int .u32 (V x1)),(2,.int .u32 (V x2)),(3,.int .u32 (V x3))] (.agg K) zr zr zr (by simp only [List.map_toArray,List.map_cons,List.map_nil,Mem.ev_tmp,List.getD_cons_succ,List.getD_cons_zero]) BLD.out ?_
          (simp only [Mem.zp,Mem.pb,Mem.pc])
          have B:Hid (Below wr.heap.size wr wr.drew):=(Below.refl _ _).drew
          generalize wr.drew=W at *
          repeat' (first
           | (refine plan_two ?_ ?_)
           | (refine plan_call (i:=25) 196 _ _ #[.agg K] (by kernel_rfl) zr zr zr (by first | exact Mem.ev_none _ | (simp only [List.map_toArray,List.map_cons,List.map_nil,Mem.ev_tmp,List.getD_cons_succ,List.getD_cons_zero] <;> rfl)) ?_
              refine (QU.out _).mono ?_
              rintro e W ⟨rfl,hbn⟩
              have B:=zh (B.out.trans (hbn.mono B.out.size))
              (try (have A8:=zh (A8.out.below hbn A8.out.lt)))
              clear hbn
              refine ⟨_,rfl,B.out,?_⟩
              (simp only [Mem.zp,Mem.pb,Mem.pc]))
           | (refine plan_alloc_any (i:=26) 286 Z zr zr zr ALL.out (fun W' h=>h _ _ B.out B.out.size) ?_
              intro b8 W ha hlo _ hbb
              have LO8:=zh (Nat.le_trans B.out.size hlo)
              have B:=zh (hbb _ _ B.out B.out.size)
              have A8:=zh ha
              clear ha hlo hbb
              (simp only [Mem.zp,Mem.pb,Mem.pc]))
           | (refine plan_store_any (i:=27) 286 _ _ b8 G Z 286 zr zr zr zr zr zr (by rw [GS.out];exact infoQ) A8.out (by rw [GS.out,ZS.out]) GO.out (fun W' h=>h _ _ B.out LO8.out) ?_
              intro W ha _ hbb
              have B:=zh (hbb _ _ B.out LO8.out)
              have A8:=zh ha
              clear ha hbb))
          all_goals (refine plan_nil ?_;go_wp2_with fail;go_meet;exact ⟨b8,rfl,LO8.out,A8.out,B.out⟩)
         case rest=>
          obtain ⟨b14,rfl,hlo,hat,hb⟩:=hcut
          have QA0:=zh hat;have PM0:=zh (PM.out.below hb PM.out.lt)
          have I5:Hid (W3 (qset M p Q 0) Jw bw w wc wc):=⟨II.out.a.below hb II.out.a.lt,But.refl _ _,II.out.b.trans (hb.mono II.out.b.size)⟩
          have O7:=zh (II.out.o.below hb)
          have QN:Hid (b14≠bw):=by have:=II.out.a.lt;show b14≠bw;omega
          have PN:Hid (pb+m≠bw):=by have:=BWP.out;show pb+m≠bw;omega
          clear hlo hat hb II PM P0 P1 P2 P3 X0 X1 X2 X3 BLD QU GS GO ALL ZS
          go_wp2_with fail
          go_loopw [15] (fun i wr=>∃ k:Nat,k≤4∧i=.int .i64 k∧W3 (qset M p Q k) Jw bw w wc wr) (fun i _=>4 - (intOf i).toNat)
          case atStart=>exact ⟨0,by omega,rfl,I5.out⟩
          case round=>
           clear I5
           obtain ⟨k,hk,rfl,hI⟩:=hrel
           by_cases hlt4:k < 4
           ·obtain ⟨q,hq⟩:∃ q,q=p.getD k 0:=⟨_,rfl⟩
            obtain ⟨y,hy⟩:∃ y,y=Q.getD k 0:=⟨_,rfl⟩
            have q16:=HP3.out k hlt4
            have gq:=GJ.out k hlt4
            have pq:(ints p).toArray[0+k]?=some (.int .i64 ((p.getD k 0:Nat):Int)):=by rw [Nat.zero_add,List.getElem?_toArray];exact ints_get p k (by rw [HP2.out];exact hlt4)
            have lq:(qset M p Q k).length=16:=by rw [qset_length];exact LM.out
            have hset:(u32s (qset M p Q k)++Jw).toArray.setIfInBounds (0+q) (.int .u32 (V y))=(u32s (qset M p Q (k+1))++Jw).toArray:=by
             rw [Nat.zero_add,app_set _ _ _ _ (by rw [lq,hq];exact q16),hq,hy];rfl
            have hsz:0+q < (u32s (qset M p Q k)++Jw).toArray.size:=by rw [app_size,lq,hq];omega
            rw [←hq] at q16 pq;rw [←hy] at gq
            have hk5:=hI.a
            obtain ⟨E,hE⟩:∃ E,E=(u32s (qset M p Q k)++Jw).toArray:=⟨_,rfl⟩
            rw [←hE] at hset hsz hk5
            have GQ:=zh gq;have PQ:=zh pq;have ST:=zh hset;have SZ:=zh hsz;have KK:=zh hk5;have OO:=zh hI.o;have B5:=zh hI.b
            have QA:=zh (QA0.out.but hI.o QN.out);have PM:=zh (PM0.out.but hI.o PN.out)
            have hlt5:(k:Int) < 4:=by omega
            clear hI gq pq lq hset hsz hq hy hk5 hE
            go_wp2_with fail
            refine wp_region_plan_in (fun w'=>But bw wr w') ((.take 0 (.take 1 (.take 2 (.take 3 (.take 4 (.take 5 (.take 6 (.take 7 (.take 8 (.sole 9 .done))))))))))) (by kernel_rfl) (by kernel_rfl) (by kernel_rfl) ⟨Nat.le_refl _,fun _ _ _=>rfl⟩ ?_
            iterate 3 ((first | refine Mem.pm1 ?_ | refine Mem.pm2 ?_ | refine Mem.pt ?_ | refine Mem.pf ?_);(simp only [Mem.zp,Mem.pb,Mem.pc]))
            refine plan_index 35 3 _ _ (pb+m) 0 4 4 k zr zr zr ze ze (by omega) Tryz.underlying35 (by kernel_rfl) ?_
            (simp only [Mem.zp,Mem.pb,Mem.pc])
            refine plan_cell 3 _ _ _ _ zr zr zr ze (fun w' hw'=>((PM.out.but hw' PN.out).cell _).trans PQ.out) Tryz.underlying3 zr ?_
            (simp only [Mem.zp,Mem.pb,Mem.pc])
            (first | refine Mem.pm1 ?_ | refine Mem.pm2 ?_ | refine Mem.pt ?_ | refine Mem.pf ?_)
            (simp only [Mem.zp,Mem.pb,Mem.pc])
            refine plan_index_arr1 286 23 4 _ _ b14 k zr zr zr ze ze (by omega) Tryz.underlying286 infoU32 ?_
            (simp only [Mem.zp,Mem.pb,Mem.pc])
            refine plan_cell 23 _ _ _ _ zr zr zr ze (fun w' hw'=>((QA.out.but hw' QN.out).cell _).trans GQ.out) Tryz.underlying23 zr ?_
            (simp only [Mem.zp,Mem.pb,Mem.pc])
            refine plan_index 216 23 _ _ bw 0 16 capw q zr zr zr ze ze (by omega) Tryz.underlying216 (by kernel_rfl) ?_
            (simp only [Mem.zp,Mem.pb,Mem.pc])
            refine plan_store_one 23 _ _ bw (0+q) (.int .u32 (V y)) E 23 zr zr zr zr ze ze zr infoU32 KK.out SZ.out ((But.row (w':=wr) (But.refl _ _) (by simp) (fun j hj=>heap_setCell_other _ _ _ _ hj))) ?_
            refine plan_nil ?_
            have a7:At (wr.drew.setCell ⟨bw,0+q,none⟩ (.int .u32 (V y))) bw (u32s (qset M p Q (k+1))++Jw).toArray 23:=by rw [←ST.out];exact At.set (w:=wr.drew) KK.out _ _
            have o7:But bw wc (wr.drew.setCell ⟨bw,0+q,none⟩ (.int .u32 (V y))):=OO.out.row (by simp) (fun j hj=>heap_setCell_other wr.drew ⟨bw,0+q,none⟩ j _ hj)
            have b7:Below w.heap.size w (wr.drew.setCell ⟨bw,0+q,none⟩ (.int .u32 (V y))):=B5.out.drew.setCell BWL.out _
            have I7:Hid (W3 (qset M p Q (k+1)) Jw bw w wc (wr.drew.setCell ⟨bw,0+q,none⟩ (.int .u32 (V y)))):=⟨a7,o7,b7⟩
            clear a7 o7 b7
            generalize wr.drew.setCell ⟨bw,0+q,none⟩ (.int .u32 (V y))=w7 at *
            go_wp2_with fail
            go_roundw
            case rel=>exact ⟨k+1,by omega,by go_num,I7.out⟩
            case measure=>simp [intOf];omega
           ·have hk4:k=4:=by omega
            have hge4:¬ (k:Int) < 4:=by omega
            rw [hk4,EN.out] at hI
            have I7:Hid (W3 (some8 L (m+1)) Jw bw w w6 wr):=⟨hI.a,But.same O7.out hI.o,hI.b⟩
            clear hI hk4 hlt4 hk
            go_wp2_with fail
            go_roundw
            case rel=>exact ⟨m+1,by omega,by go_num,I7.out⟩
            case measure=>simp [intOf];omega
        ·have hm8:m=8:=by omega
         have hge2:¬ (m:Int) < 8:=by omega
         rw [hm8,NX.out] at hI
         have I7:Hid (W3 (all8 cf (r+1)) Jw bw w w5 wr):=⟨hI.a,But.same O6.out hI.o,hI.b⟩
         clear hI hm8 hlt2 hm
         go_wp2_with fail
         go_roundw
         case rel=>exact ⟨r+1,by omega,by go_num,I7.out⟩
         case measure=>simp [intOf];omega
      ·have hr10:r=10:=by omega
       have hge3:¬ (r:Int) < 10:=by omega
       rw [hr10] at hI
       obtain ⟨rd,hrd⟩:∃ rd,rd=all8 cf 10:=⟨_,rfl⟩
       have lrd:rd.length=16:=by rw [hrd,all8_length];exact LCF.out
       have hcb:=cblk_word key nonce n
       have lcb:=cblk_length key nonce n
       obtain ⟨cb,hcbb⟩:∃ cb,cb=cblk key nonce n:=⟨_,rfl⟩
       rw [←HCF.out,←hrd,←hcbb] at hcb
       rw [←hcbb] at lcb
       rw [←hrd] at hI
       obtain ⟨X2,hX2⟩:∃ X,X=CZ64:=⟨_,rfl⟩
       have hx2:=czero64
       rw [←hX2] at hx2
       have hX0:(u8s (rowZ cb 64 0)).toArray=X2:=by rw [hX2];simp [rowZ,CZ64]
       have wa:At (wr.alloc (.cells X2 259)) bw (u32s rd++Jw).toArray 23:=hI.a.alloc _
       have fa:At (wr.alloc (.cells X2 259)) bf (u32s cf++Jf).toArray 23:=(FA5.out.but hI.o BWF.out).alloc _
       have ra:At (wr.alloc (.cells X2 259)) (w.heap.size+1+1) X 259:=(RR5.out.but hI.o BWR.out).alloc _
       have I6:Hid (W6 (rowZ cb 64 (4*0)) wr.heap.size w (wr.alloc (.cells X2 259)) (wr.alloc (.cells X2 259))):=⟨by rw [Nat.mul_zero,hX0];exact at_new wr X2 _,But.refl _ _,hI.b.alloc hI.b.size _⟩
       have NW:Hid (bw≠wr.heap.size):=Nat.ne_of_lt hI.a.lt
       have NF:Hid (bf≠wr.heap.size):=Nat.ne_of_lt (FA5.out.but hI.o BWF.out).lt
       have NR:Hid (w.heap.size+1+1≠wr.heap.size):=Nat.ne_of_lt (RR5.out.but hI.o BWR.out).lt
       have LO:Hid (w.heap.size≤wr.heap.size):=hI.b.size
       have WA0:=zh wa;have FA0:=zh fa;have RA0:=zh ra;have CB:=zh hcb;have LCB:=zh lcb;have HCB:=zh hcbb;have LRD:=zh lrd
       clear hI wa fa ra hcb lcb hcbb hrd lrd hX0 hX2 hr10 hlt hr
       go_wp2_with fail
       clear hx2
       generalize wr.alloc (.cells X2 259)=wd at *
       generalize wr.heap.size=bo at *
       go_loopw [17,18,19] (fun i _ _ wr=>∃ j:Nat,j≤16∧i=.int .i64 j∧W6 (rowZ cb 64 (4*j)) bo w wd wr) (fun i _ _ _=>16 - (intOf i).toNat)
       case atStart=>exact ⟨0,by omega,rfl,I6.out⟩
       case round=>
        clear I6
        obtain ⟨i,hi,rfl,hI⟩:=hrel
        by_cases hlt6:i < 16
        ·obtain ⟨x,hxx⟩:∃ x,x=rd.getD i 0:=⟨_,rfl⟩
         obtain ⟨y,hyy⟩:∃ y,y=cf.getD i 0:=⟨_,rfl⟩
         have xi:=app_get rd Jw i (by rw [LRD.out];exact hlt6)
         have yi:=app_get cf Jf i (by rw [LCF.out];exact hlt6)
         have cw:=CB.out i hlt6
         rw [←hxx] at xi;rw [←hyy] at yi;rw [←hxx,←hyy] at cw
         have xi2:(u32s rd++Jw).toArray[0+i]?=some (.int .u32 (V x)):=by rw [Nat.zero_add];exact xi
         have yi2:(u32s cf++Jf).toArray[0+i]?=some (.int .u32 (V y)):=by rw [Nat.zero_add];exact yi
         have WA:=zh (WA0.out.but hI.o NW.out);have FA:=zh (FA0.out.but hI.o NF.out);have XI:=zh xi2;have YI:=zh yi2;have CW:=zh cw;have II:=zh hI
         have hlt7:(i:Int) < 16:=by omega
         clear hI xi yi xi2 yi2 cw hxx hyy
         go_wp2_with fail
         refine wp_region_plan ((.take 0 (.take 1 (.take 2 (.take 3 (.take 4 (.take 5 (.take 6 (.take 7 (.take 8 (.take 9 .done))))))))))) (by kernel_rfl) (by kernel_rfl) (by kernel_rfl) ?_
         iterate 2 ((first | refine Mem.pm1 ?_ | refine Mem.pm2 ?_ | refine Mem.pt ?_ | refine Mem.pf ?_);(simp only [Mem.zp,Mem.pb,Mem.pc]))
         refine plan_index 216 23 _ _ bw 0 16 capw i zr zr zr ze ze (by omega) Tryz.underlying216 (by kernel_rfl) ?_
         (simp only [Mem.zp,Mem.pb,Mem.pc])
         refine plan_cell 23 _ _ _ _ zr zr zr ze (fun w' hw'=>((WA.out.below hw' WA.out.lt).cell _).trans XI.out) Tryz.underlying23 zr ?_
         (simp only [Mem.zp,Mem.pb,Mem.pc])
         iterate 2 ((first | refine Mem.pm1 ?_ | refine Mem.pm2 ?_ | refine Mem.pt ?_ | refine Mem.pf ?_);(simp only [Mem.zp,Mem.pb,Mem.pc]))
         refine plan_index 216 23 _ _ bf 0 16 capf i zr zr zr ze ze (by omega) Tryz.underlying216 (by kernel_rfl) ?_
         (simp only [Mem.zp,Mem.pb,Mem.pc])
         refine plan_cell 23 _ _ _ _ zr zr zr ze (fun w' hw'=>((FA.out.below hw' FA.out.lt).cell _).trans YI.out) Tryz.underlying23 zr ?_
         (simp only [Mem.zp,Mem.pb,Mem.pc])
         refine plan_bin _ _ _ _ _ _ _ _ zr zr zr ze ze (fun wx=>o_add _ _ _ _ _ _ wx) ?_
         (simp only [Mem.zp,Mem.pb,Mem.pc])
         (first | refine Mem.pm1 ?_ | refine Mem.pm2 ?_ | refine Mem.pt ?_ | refine Mem.pf ?_)
         (simp only [Mem.zp,Mem.pb,Mem.pc])
         refine plan_nil ?_
         obtain ⟨z,hz⟩:∃ z,z=x+y:=⟨_,rfl⟩
         rw [←hz]
         have CW2:Hid (∀ j,j < 4→cb.getD (4*i+j) 0=wb z (8*j)):=by rw [hz];exact CW.out
         have vz:=V_lo z
         have I8:Hid (W6 (rowZ cb 64 (4*i+0)) bo w wd wr.drew):=⟨II.out.a,⟨II.out.o.size,II.out.o.block⟩,II.out.b.drew⟩
         clear hz CW II WA FA XI YI
         generalize wr.drew=w8 at *
         go_wp2_with fail
         go_loopw [19] (fun k wr=>∃ j:Nat,j≤4∧k=.int .i64 j∧W6 (rowZ cb 64 (4*i+j)) bo w wd wr) (fun k _=>4 - (intOf k).toNat)
         case atStart=>exact ⟨0,by omega,rfl,I8.out⟩
         case round=>
          clear I8
          obtain ⟨j,hj,rfl,hI⟩:=hrel
          by_cases hlt8:j < 4
          ·have hset:(u8s (rowZ cb 64 (4*i+j))).toArray.setIfInBounds (4*i+j) (.int .u8 ((wb z (8*j)).toNat:Int))=(u8s (rowZ cb 64 (4*i+(j+1)))).toArray:=by
            rw [show 4*i+(j+1)=(4*i+j)+1 by omega,←rowZ_set cb 64 (4*i+j) LCB.out (by omega),CW2.out j hlt8];exact u8s_set _ _ _
           have hEs:4*i+j < (u8s (rowZ cb 64 (4*i+j))).toArray.size:=by rw [List.size_toArray,u8s_length,rowZ_length cb 64 _ LCB.out (by omega)];omega
           have hk:=hI.a
           obtain ⟨E,hE⟩:∃ E,E=(u8s (rowZ cb 64 (4*i+j))).toArray:=⟨_,rfl⟩
           rw [←hE] at hk hset hEs
           have KK:=zh hk;have ST:=zh hset;have ES:=zh hEs;have OO:=zh hI.o;have BB:=zh hI.b
           have hlt9:(j:Int) < 4:=by omega
           have hbd:4*(i:Int)+(j:Int) < 64:=by omega
           clear hk hset hEs hI hE
           go_wp2_with (refine Mem.wpList_store_one zr 5 _ _ zr zr bo (4*i+j) (.int .u8 ((wb z (8*j)).toNat:Int)) zr (by exact congrArg (Value.int .u8) (wb_pow' z _)) zr infoB _ _ KK.out ES.out ?_;intro w9 hat' ho' hb';have KK':=zh hat';have OO':=zh (OO.out.row (hb' bo _ (Below.refl _ _) (Nat.le_refl _)).size ho');have BB':=zh (hb' _ _ BB.out LO.out);clear hat' ho' hb')
           go_roundw
           case rel=>exact ⟨j+1,by omega,by go_num,by rw [←ST.out];exact KK'.out,OO'.out,BB'.out⟩
           case measure=>simp [intOf];omega
          ·have hj4:j=4:=by omega
           have hge8:¬ (j:Int) < 4:=by omega
           rw [hj4,show 4*i+4=4*(i+1) by omega] at hI
           have I9:=zh hI
           clear hI hj4 hlt8 hj
           go_wp2_with fail
           go_roundw
           case rel=>exact ⟨i+1,by omega,by go_num,I9.out⟩
           case measure=>simp [intOf];omega
        ·have hi16:i=16:=by omega
         have hge6:¬ (i:Int) < 16:=by omega
         rw [hi16,rowZ_all cb 64 LCB.out] at hI
         obtain ⟨M,hM⟩:∃ M,M=cbOf key nonce n:=⟨_,rfl⟩
         have hk:=hI.a
         rw [show (u8s cb).toArray=M by rw [hM,HCB.out];rfl] at hk
         have hMs:M.size=64:=by rw [hM];exact cbOf_size _ _ _
         have hMo:M.all (·.oneCell')=true:=by rw [hM];exact cbOf_one _ _ _
         have HM:=zh hM;have MS:=zh hMs;have MO:=zh hMo;have KK:=zh hk;have RR:=zh (RA0.out.but hI.o NR.out);have BB:=zh hI.b
         clear hM hMs hMo hk hI hlt6 hi hi16
         go_wp2_with (first | (refine wpList_load_all zr 259 _ zr bo zr _ Tryz.underlying259 zr M _ KK.out (by rw [MS.out];exact cinfo64) ?_) | (refine wpList_store_all zr 259 _ _ zr zr (w.heap.size+1+1) M zr zr (by rw [MS.out];exact cinfo64) _ _ RR.out (by rw [MS.out,XS.out]) MO.out ?_))
         try simp only [Exit.inBlock,Exit.then]
         refine ret_row zr (w.heap.size+1+1) 259 M _ zr (RR.out.row M) Tryz.underlying259 zr (by rw [MS.out];exact cinfo64) ?_
         exact ⟨by rw [HM.out];rfl,below_row BB.out (by omega) M⟩
theorem ncOf_size (e:BitVec 32) (b:BitVec 64):(ncOf e b).size=12:=by simp [ncOf,u8s,cnonce_length]
theorem ncOf_one (e:BitVec 32) (b:BitVec 64):(ncOf e b).all (·.oneCell')=true:=u8s_one _
def lo32 (b:BitVec 64):BitVec 32:=b.setWidth 32
def hi32 (b:BitVec 64):BitVec 32:=(b >>> 32).setWidth 32
theorem lo_val (b:BitVec 64):(b.toNat:Int) % 4294967296=V (lo32 b):=by
 unfold V lo32
 rw [BitVec.toNat_setWidth]
 omega
theorem hi_val (b:BitVec 64):(b.toNat:Int) / 4294967296=V (hi32 b):=by
 have:=b.isLt
 unfold V hi32
 rw [BitVec.toNat_setWidth,BitVec.toNat_ushiftRight,Nat.shiftRight_eq_div_pow]
 omega
theorem wb_lo (b:BitVec 64) (j:Nat) (h:j < 4):wb (lo32 b) (8*j)=wb64 b (8*j):=by
 unfold wb lo32 wb64
 apply BitVec.eq_of_getLsbD_eq
 intro i hi
 have h8:8*j+i < 32:=by omega
 simp [BitVec.getLsbD_ushiftRight,hi,h8]
theorem wb_hi (b:BitVec 64) (j:Nat) (h:j < 4):wb (hi32 b) (8*j)=wb64 b (8*(4+j)):=by
 unfold wb hi32 wb64
 apply BitVec.eq_of_getLsbD_eq
 intro i hi
 have h8:8*j+i < 32:=by omega
 have h9:32+(8*j+i)=8*(4+j)+i:=by omega
 simp [BitVec.getLsbD_ushiftRight,hi,h8,h9]
theorem cnonce_row (e:BitVec 32) (b:BitVec 64) :
 put4 (put4 (put4 (List.replicate 12 0) 0 e 4) 4 (lo32 b) 4) 8 (hi32 b) 4=cnonce e b:=by
 have hl:=cnonce_length e b
 have h1:=put4_row (cnonce e b) 12 0 e hl (by decide) (fun j hj=>by rw [Nat.zero_add];exact cnonce_low e b j hj) 4 (by decide)
 have h2:=put4_row (cnonce e b) 12 4 (lo32 b) hl (by decide) (fun j hj=>by rw [cnonce_high e b j (by omega),wb_lo b j hj]) 4 (by decide)
 have h3:=put4_row (cnonce e b) 12 8 (hi32 b) hl (by decide) (fun j hj=>by rw [show 8+j=4+(4+j) by omega,cnonce_high e b (4+j) (by omega),wb_hi b j hj]) 4 (by decide)
 have h0:rowZ (cnonce e b) 12 0=List.replicate 12 0:=by simp [rowZ]
 rw [h0] at h1
 rw [h1,h2,h3]
 exact rowZ_all _ 12 hl
theorem nonce_any (e:BitVec 32) (b:BitVec 64) (w:World) :
 Calls Tryz.prog 160 #[.int .u32 (V e),.int .u64 (b.toNat:Int)] w fun o w'=>o=.returned (.agg (ncOf e b))∧Below w.heap.size w w':=by
 obtain ⟨X,hX⟩:∃ X,X=Z12:=⟨_,rfl⟩
 have hx:=zero12
 rw [←hX] at hx
 have hXs:X.size=12:=by rw [hX];simp [Z12,u8s]
 obtain ⟨l0,h0⟩:∃ l,l=(List.replicate 12 0:Lb8):=⟨_,rfl⟩
 obtain ⟨l1,h1⟩:∃ l,l=put4 l0 0 e 4:=⟨_,rfl⟩
 obtain ⟨l2,h2⟩:∃ l,l=put4 l1 4 (lo32 b) 4:=⟨_,rfl⟩
 obtain ⟨l3,h3⟩:∃ l,l=put4 l2 8 (hi32 b) 4:=⟨_,rfl⟩
 have e0:l0.length=12:=by rw [h0];simp
 have e1:l1.length=12:=by rw [h1,put4_length,e0]
 have e2:l2.length=12:=by rw [h2,put4_length,e1]
 have hend:l3=cnonce e b:=by rw [h3,h2,h1,h0];exact cnonce_row e b
 have p1:=fun wx bx (h:At wx bx (u8s l0).toArray 214)=>putWord_any e l0 bx 0 12 12 214 wx h (by decide) (by rw [e0];decide)
 have p2:=fun wx bx (h:At wx bx (u8s l1).toArray 214)=>putWord_any (lo32 b) l1 bx 4 8 8 214 wx h (by decide) (by rw [e1];decide)
 have p3:=fun wx bx (h:At wx bx (u8s l2).toArray 214)=>putWord_any (hi32 b) l2 bx 8 4 4 214 wx h (by decide) (by rw [e2];decide)
 rw [←h1] at p1;rw [←h2] at p2;rw [←h3] at p3
 have hX0:(u8s l0).toArray=X:=by rw [hX,h0];rfl
 have a1:At ((w.alloc (.cells X 214)).alloc (.cells X 214)) (w.heap.size+1) (u8s l0).toArray 214:=by
  have h:=at_new (w.alloc (.cells X 214)) X 214
  rw [hX0];simpa using h
 have r1:At ((w.alloc (.cells X 214)).alloc (.cells X 214)) w.heap.size X 214:=(at_new w X _).alloc _
 have b1:Below w.heap.size w ((w.alloc (.cells X 214)).alloc (.cells X 214)):=((Below.refl _ _).alloc (Nat.le_refl _) _).alloc (by simp) _
 have P1:=zh p1;have P2:=zh p2;have P3:=zh p3;have EN:=zh hend;have XS:=zh hXs;have A1:=zh a1;have R1:=zh r1;have B1:=zh b1
 have ve0:=V_lo e
 have vb0:0≤(b.toNat:Int):=Int.natCast_nonneg _
 clear p1 p2 p3 hend hXs a1 r1 b1 h0 h1 h2 h3 e0 e1 e2 hX hX0
 go_enter Tryz.func160,Tryz.ntmps160
 go_wp2_with fail
 clear hx
 generalize (w.alloc (.cells X 214)).alloc (.cells X 214)=w2 at *
 refine (P1.out _ _ A1.out).mono ?_
 rintro o w3 ⟨rfl,hp⟩
 have A2:=zh hp.a;have R2:=zh (R1.out.but hp.o (by omega));have B2:=zh (hp.k _ _ B1.out (by omega))
 clear hp A1 R1 B1 P1
 go_wp2_with fail
 rw [lo_val]
 refine (P2.out _ _ A2.out).mono ?_
 rintro o w4 ⟨rfl,hp⟩
 have A3:=zh hp.a;have R3:=zh (R2.out.but hp.o (by omega));have B3:=zh (hp.k _ _ B2.out (by omega))
 clear hp A2 R2 B2 P2
 go_wp2_with fail
 rw [hi_val]
 refine (P3.out _ _ A3.out).mono ?_
 rintro o w5 ⟨rfl,hp⟩
 have ha:=hp.a
 obtain ⟨M,hM⟩:∃ M,M=ncOf e b:=⟨_,rfl⟩
 rw [show (u8s l3).toArray=M by rw [hM,EN.out];rfl] at ha
 have hMs:M.size=12:=by rw [hM];exact ncOf_size _ _
 have hMo:M.all (·.oneCell')=true:=by rw [hM];exact ncOf_one _ _
 have A4:=zh ha;have R4:=zh (R3.out.but hp.o (by omega));have B4:=zh (hp.k _ _ B3.out (by omega));have HM:=zh hM;have MS:=zh hMs;have MO:=zh hMo
 clear hp ha A3 R3 B3 P3 hM hMs hMo
 go_wp2_with (first | (refine wpList_load_all zr 214 _ zr (w.heap.size+1) zr _ Tryz.underlying214 zr M _ A4.out (by rw [MS.out];exact info12) ?_) | (refine wpList_store_all zr 214 _ _ zr zr w.heap.size M zr zr (by rw [MS.out];exact info12) _ _ R4.out (by rw [MS.out,XS.out]) MO.out ?_))
 try simp only [Exit.inBlock,Exit.then]
 refine ret_row zr w.heap.size 214 M _ zr (R4.out.row M) Tryz.underlying214 zr (by rw [MS.out];exact info12) ?_
 exact ⟨by rw [HM.out],below_row B4.out (by omega) M⟩
def ksr (key nonce:Lb8) (n:BitVec 32) (size j:Nat):Lb8:=(cblks key nonce n j).take size++List.replicate (size - 64*j) 0
theorem ksr_length (key nonce:Lb8) (n:BitVec 32) (size j:Nat):(ksr key nonce n size j).length=size:=by
 simp [ksr,cblks_length];omega
theorem ksr_splice (key nonce:Lb8) (n:BitVec 32) (size j:Nat) (h:64*j < size) :
 Mem.splice (u8s (ksr key nonce n size j)).toArray (64*j) (u8s ((cblk key nonce (n+BitVec.ofNat 32 j)).take (min 64 (size - 64*j))))=(u8s (ksr key nonce n size (j+1))).toArray:=by
 have e0:ksr key nonce n size j=cblks key nonce n j++List.replicate (size - 64*j) 0:=by
  rw [ksr,List.take_of_length_le (by rw [cblks_length];omega)]
 have lb:=cblks_length key nonce n j
 have lk:=cblk_length key nonce (n+BitVec.ofNat 32 j)
 have e1:ksr key nonce n size (j+1)=cblks key nonce n j++(cblk key nonce (n+BitVec.ofNat 32 j)).take (min 64 (size - 64*j))++List.replicate (size - 64*j - min 64 (size - 64*j)) 0:=by
  rw [ksr,cblks,List.take_append,lb,List.take_of_length_le (by omega)]
  congr 2
  ·by_cases h32:64≤size - 64*j
   ·rw [Nat.min_eq_left h32,List.take_of_length_le (by omega),List.take_of_length_le (by omega)]
   ·rw [Nat.min_eq_right (by omega)]
  ·omega
 rw [e0,e1]
 unfold Mem.splice u8s
 rw [List.map_append,List.map_append,List.map_append]
 have h1:(List.map (fun x:BitVec 8=>Value.int .u8 (x.toNat:Int)) (cblks key nonce n j)).length=64*j:=by simp [lb]
 congr 1
 rw [List.take_left' h1]
 congr 1
 rw [List.length_map,List.length_take,lk,List.drop_append,h1,List.drop_of_length_le (by omega),List.nil_append,←List.map_drop,List.drop_replicate]
 congr 2
 omega
theorem ksr_zero (key nonce:Lb8) (n:BitVec 32) (size:Nat):ksr key nonce n size 0=List.replicate size 0:=by simp [ksr,cblks]
theorem ksr_all (key nonce:Lb8) (n:BitVec 32) (size j:Nat) (h:size≤64*j):ksr key nonce n size j=cstream key nonce n size:=by
 rw [ksr,cstream_from key nonce n size j h,Nat.sub_eq_zero_of_le h,List.replicate_zero,List.append_nil]
theorem V_up (n:BitVec 32) (j:Nat):(V (n+BitVec.ofNat 32 j)+1) % (4294967296:Int)=V (n+BitVec.ofNat 32 (j+1)):=by
 rw [show (1:Int)=V 1 from rfl,r_add]
 congr 1
 rw [BitVec.add_assoc]
 congr 1
 apply BitVec.eq_of_toNat_eq
 simp
structure CSInv (key nonce:Lb8) (n:BitVec 32) (size:Nat) (C D:Array Value) (w:World) (j:Nat) (wr:World):Prop where
 row:At wr (w.heap.size+1+1) (u8s (ksr key nonce n size j)).toArray 5
 c:At wr w.heap.size C 22
 d:At wr (w.heap.size+1) D 214
 b:Below w.heap.size w wr
def StRel (key nonce:Lb8) (n:BitVec 32) (size:Nat) (C D:Array Value) (w:World) (vn vl:Value) (wr:World):Prop:=
 ∃ j:Nat,64*j≤size+63∧vn=.int .u32 (V (n+BitVec.ofNat 32 j))∧(∃ a c,vl=.slice a (size - 64*j) c∧(64*j < size→a=some ⟨w.heap.size+1+1,64*j,none⟩∧c=size - 64*j))∧CSInv key nonce n size C D w j wr
theorem stream_good (key nonce:Lb8) (n:BitVec 32) (size:Nat) (lk:key.length=32) (ln:nonce.length=12) (hz:size≤1048576) (w:World) (hL:CTabs w) :
 Calls Tryz.prog 183 #[.agg (u8s key).toArray,.agg (u8s nonce).toArray,.int .u32 (V n),.int .i64 (size:Int)] w (SEnd w (cstream key nonce n size)):=by
 obtain ⟨X,hX⟩:∃ X,X=CZ64:=⟨_,rfl⟩
 have hx:=czero64
 rw [←hX] at hx
 have hXs:X.size=64:=by rw [hX];simp [CZ64,u8s]
 have hbl:=fun (m:BitVec 32) wx (h:Below w.heap.size w wx)=>blk_any key nonce m lk ln wx (hL.below h (Nat.le_refl _))
 obtain ⟨C,hC⟩:∃ C,C=(u8s key).toArray:=⟨_,rfl⟩
 obtain ⟨D,hD⟩:∃ D,D=(u8s nonce).toArray:=⟨_,rfl⟩
 have hCs:C.size=32:=by rw [hC];simp [u8s,lk]
 have hDs:D.size=12:=by rw [hD];simp [u8s,ln]
 rw [←hC,←hD] at hbl
 rw [←hC,←hD]
 obtain ⟨i8,hi8,hz8,hs8,hb8⟩:=info_parts infoU8
 have h0:¬ (size:Int) < 0:=by omega
 have h1:¬ (1048576:Int) < (size:Int):=by omega
 have aC:At ((w.alloc (.cells C 22)).alloc (.cells D 214)) w.heap.size C 22:=(at_new w C _).alloc _
 have aD:At ((w.alloc (.cells C 22)).alloc (.cells D 214)) (w.heap.size+1) D 214:=by
  have h:=at_new (w.alloc (.cells C 22)) D 214
  simpa using h
 have aB:Below w.heap.size w ((w.alloc (.cells C 22)).alloc (.cells D 214)):=((Below.refl _ _).alloc (Nat.le_refl _) _).alloc (by simp) _
 have BL:=zh hbl;have XS:=zh hXs;have CS:=zh hCs;have DS:=zh hDs;have I8:=zh hi8;have Z8:=zh hz8;have S8:=zh hs8;have B8':=zh hb8;have AC:=zh aC;have AD:=zh aD;have AB:=zh aB
 clear hbl hXs hCs hDs hi8 hz8 hs8 hb8 aC aD aB hX hC hD lk ln hL
 go_enter Tryz.func183,Tryz.ntmps183
 go_wp2_with (refine wpList_make_full _ zr _ _ 63 zr ((w.alloc (.cells C 22)).alloc (.cells D 214)).heap.size 5 i8 (.int .u8 0) 1 Tryz.underlying63 I8.out Z8.out S8.out .i64 .i64 _ _ size zr zr rfl rfl (by rw [B8'.out];omega) (by simp [maxLen];omega) (Nat.le_refl _) ?_;intro w4 ho4 hg4;have O4:=zh ho4;have G4:=zh hg4;clear ho4 hg4)
 have row0:At w4 (w.heap.size+1+1) (u8s (ksr key nonce n size 0)).toArray 5:=by
  rw [ksr_zero]
  have h:=own_full O4.out
  rw [made_zeros] at h
  simpa using h
 have key0:∀ b E t,At ((w.alloc (.cells C 22)).alloc (.cells D 214)) b E t→At w4 b E t:=fun b E t h=>by
  have hl:=h.lt
  unfold At at *
  rw [G4.out.block b hl (by simp)];exact h
 have b40:Below w.heap.size w w4:=AB.out.grown G4.out AB.out.size (fun _ h=>by cases h)
 have I0:Hid (CSInv key nonce n size C D w 0 w4):=⟨row0,key0 _ _ _ AC.out,key0 _ _ _ AD.out,b40⟩
 have N0:Hid (V n=V (n+BitVec.ofNat 32 0)):=by show V n=V (n+BitVec.ofNat 32 0);simp
 clear row0 key0 b40 O4 G4 I8 Z8 S8 B8' AC AD AB h0 h1
 generalize ((w.alloc (.cells C 22)).alloc (.cells D 214)).heap.size=bx at *
 go_loopw [2,10,11] (fun vn vl _ wr=>StRel key nonce n size C D w vn vl wr) (fun _ vl _ _=>(match vl with | .slice _ l _=>l | _=>0))
 case atStart=>exact ⟨0,by omega,by rw [N0.out],⟨some ⟨w.heap.size+1+1,0,none⟩,size,by simp,fun _=>⟨by simp,by simp⟩⟩,I0.out⟩
 case round=>
  clear I0 N0
  obtain ⟨j,hj,rfl,⟨al,cl,rfl,hal⟩,hI⟩:=hrel
  obtain ⟨q,hq⟩:∃ q,q=size - 64*j:=⟨_,rfl⟩
  rw [←hq] at hal ⊢
  by_cases hlt:64*j < size
  ·obtain ⟨rfl,hcq⟩:=hal hlt
   rw [hcq]
   clear hcq
   have hq0:(q:Int) > 0:=by omega
   obtain ⟨k,hk⟩:∃ k,k=min 64 (size - 64*j):=⟨_,rfl⟩
   have hsp:=ksr_splice key nonce n size j hlt
   rw [←hk] at hsp
   have hkq:k≤q:=by omega
   have hk64:k=min 64 q:=by omega
   obtain ⟨N,hN⟩:∃ N,N=n+BitVec.ofNat 32 j:=⟨_,rfl⟩
   have hN2:(V N+1) % (4294967296:Int)=V (n+BitVec.ofNat 32 (j+1)):=by rw [hN];exact V_up n j
   have hjo:=BL.out N
   rw [←hN] at hsp ⊢
   obtain ⟨T,hT⟩:∃ T,T=cblk key nonce N:=⟨_,rfl⟩
   have hTl:T.length=64:=by rw [hT];exact cblk_length _ _ _
   unfold cbOf at hjo
   rw [←hT] at hjo hsp
   obtain ⟨F,hF⟩:∃ F,F=(u8s T).toArray:=⟨_,rfl⟩
   have hFs:F.size=64:=by rw [hF];simp [u8s,hTl]
   have hFo:F.all (·.oneCell')=true:=by rw [hF];exact u8s_one _
   rw [←hF] at hjo
   have hrs:(u8s (ksr key nonce n size j)).toArray.size=size:=by simp [u8s,ksr_length]
   have II:=zh hI;have SP:=zh hsp;have JJ:=zh hjo;have N2:=zh hN2;have TL:=zh hTl;have HF:=zh hF;have FS:=zh hFs;have FO:=zh hFo;have HK:=zh hk64;have KQ:=zh hkq;have RS:=zh hrs;have HQ:=zh hq
   clear hI hsp hjo hN2 hTl hF hFs hFo hk64 hkq hk hrs hT hN hal hq
   go_wp2_with (first
    | (refine wpList_load_all zr 22 _ zr w.heap.size zr _ Tryz.underlying22 zr C _ II.out.c (by rw [CS.out];exact info32b) ?_)
    | (refine wpList_load_all zr 214 _ zr (w.heap.size+1) zr _ Tryz.underlying214 zr D _ II.out.d (by rw [DS.out];exact info12) ?_)
    | (go_at_call 202;refine (JJ.out _ II.out.b).mono ?_;rintro e w5 ⟨rfl,hb5⟩;have R5:=zh (II.out.row.below hb5 II.out.row.lt);have C5:=zh (II.out.c.below hb5 II.out.c.lt);have D5:=zh (II.out.d.below hb5 II.out.d.lt);have B5:=zh (II.out.b.trans (hb5.mono II.out.b.size));clear hb5)
    | (refine wpList_store_new zr 259 _ _ zr zr F _ _ zr zr (by rw [FS.out];exact cinfo64) (by rw [FS.out,XS.out]) FO.out ?_;have F6:=zh (at_new w5 F 259);have R6:=zh (R5.out.alloc (.cells F 259));have C6:=zh (C5.out.alloc (.cells F 259));have D6:=zh (D5.out.alloc (.cells F 259));have B6:=zh (B5.out.alloc B5.out.size (.cells F 259));generalize w5.alloc (.cells F 259)=w6 at *;generalize w5.heap.size=bg at *)
    | (refine wpList_copy_sl zr _ _ zr (w.heap.size+1+1) (64*j) q q (.slice (some ⟨bg,0,none⟩) 64 64) T zr zr (at_sl (by have h:=F6.out;rw [HF.out] at h;exact h) TL.out) k (by rw [TL.out];exact HK.out) _ _ R6.out (by have:=HQ.out;have:=KQ.out;rw [RS.out];omega) _ SP.out ?_;intro w7 ha7 hs7 ho7 hbb7;have R7:=zh ha7;have C7:=zh (at_keep C6.out ho7 (by omega));have D7:=zh (at_keep D6.out ho7 (by omega));have B7:=zh (hbb7 _ _ B6.out (by omega));clear ha7 hs7 ho7 hbb7)
    | (refine wpList_slice_low zr _ _ _ zr 5 Tryz.underlying63 infoB (some ⟨w.heap.size+1+1,64*j,none⟩) q q k zr zr KQ.out ?_;intro a8 ha8;have A8:=zh ha8;clear ha8))
   rw [N2.out]
   go_roundw
   case rel=>
    have hq:=HQ.out
    have hk:=HK.out
    refine ⟨j+1,by omega,rfl,⟨a8,q - k,by rw [show size - 64*(j+1)=q - k by omega],fun h=>⟨by rw [A8.out _ _ rfl (by omega),show 64*j+k=64*(j+1) by omega],by omega⟩⟩,R7.out,C7.out,D7.out,B7.out⟩
   case measure=>simp only;have:=HK.out;omega
  ·have hq0:q=0:=by omega
   have hall:=ksr_all key nonce n size j (by omega)
   have hrow:=hI.row
   rw [hall] at hrow
   have hge:¬ (q:Int) > 0:=by omega
   have RW:=zh hrow;have BB:=zh hI.b
   clear hrow hI hall hq0 hal hq hlt
   go_wp2_with fail
   go_ret
   exact ⟨w.heap.size+1+1,by rw [cstream_length];rfl,RW.out,by omega,BB.out⟩
structure RSInv (key nonce:Lb8) (n:BitVec 32) (C D:Array Value) (j:Nat) (v:Value) (w wr:World):Prop where
 o:OwnB wr (w.heap.size+1+1) v (cblks key nonce n j)
 c:At wr w.heap.size C 22
 d:At wr (w.heap.size+1) D 214
 b:Below w.heap.size w wr
theorem rstream_good (key nonce:Lb8) (n:BitVec 32) (size:Nat) (lk:key.length=32) (ln:nonce.length=12) (hz:size≤1048576) (w:World) :
 Calls Tryz.prog 153 #[.agg (u8s key).toArray,.agg (u8s nonce).toArray,.int .u32 (V n),.int .i64 (size:Int)] w (RSEnd w (cstream key nonce n size)):=by
 obtain ⟨X,hX⟩:∃ X,X=CZ64:=⟨_,rfl⟩
 have hx:=czero64
 rw [←hX] at hx
 have hXs:X.size=64:=by rw [hX];simp [CZ64,u8s]
 have hbl:=fun (m:BitVec 32) wx=>rblk_any key nonce m lk ln wx
 obtain ⟨C,hC⟩:∃ C,C=(u8s key).toArray:=⟨_,rfl⟩
 obtain ⟨D,hD⟩:∃ D,D=(u8s nonce).toArray:=⟨_,rfl⟩
 have hCs:C.size=32:=by rw [hC];simp [u8s,lk]
 have hDs:D.size=12:=by rw [hD];simp [u8s,ln]
 rw [←hC,←hD] at hbl
 rw [←hC,←hD]
 have g3:¬ (size:Int) < 0:=by omega
 have g4:¬ (1048576:Int) < (size:Int):=by omega
 have aD:At ((w.alloc (.cells C 22)).alloc (.cells D 214)) (w.heap.size+1) D 214:=by
  have h:=at_new (w.alloc (.cells C 22)) D 214
  simpa using h
 have hI:RSInv key nonce n C D 0 (.slice none 0 0) w ((w.alloc (.cells C 22)).alloc (.cells D 214)):=
  ⟨OwnB.nil _ _,(at_new w C _).alloc _,aD,((Below.refl _ _).alloc (Nat.le_refl _) _).alloc (by simp) _⟩
 have N0:Hid (V n=V (n+BitVec.ofNat 32 0)):=by show V n=V (n+BitVec.ofNat 32 0);simp
 have BL:=zh hbl;have XS:=zh hXs;have CS:=zh hCs;have DS:=zh hDs;have I0:=zh hI
 clear hbl hXs hX hC hD hCs hDs aD hI lk ln
 go_enter Tryz.func153,Tryz.ntmps153
 go_wp2_with fail
 generalize (w.alloc (.cells C 22)).alloc (.cells D 214)=w4 at *
 go_loopw [2,9,10] (fun vn vo _ wr=>∃ j:Nat,64*j≤size+63∧vn=.int .u32 (V (n+BitVec.ofNat 32 j))∧RSInv key nonce n C D j vo w wr) (fun _ vo _ _=>2000000 - (match vo with | .slice _ l _=>l | _=>0))
 case atStart=>exact ⟨0,by omega,by rw [N0.out],I0.out⟩
 case round=>
  clear I0 N0
  obtain ⟨j,hj,rfl,hI⟩:=hrel
  obtain ⟨ao,co,hvo,hco,_⟩:=hI.o.open
  rw [cblks_length] at hvo hco
  subst hvo
  by_cases hlt:64*j < size
  ·have hlt':64*(j:Int) < (size:Int):=by omega
   obtain ⟨N,hN⟩:∃ N,N=n+BitVec.ofNat 32 j:=⟨_,rfl⟩
   have hN2:(V N+1) % (4294967296:Int)=V (n+BitVec.ofNat 32 (j+1)):=by rw [hN];exact V_up n j
   have hb:=fun wx=>BL.out N wx
   obtain ⟨T,hT⟩:∃ T,T=cblk key nonce N:=⟨_,rfl⟩
   have hTl:T.length=64:=by rw [hT];exact cblk_length _ _ _
   have hnx:cblks key nonce n (j+1)=cblks key nonce n j++T:=by rw [hT,hN];rfl
   obtain ⟨F,hF⟩:∃ F,F=(u8s T).toArray:=⟨_,rfl⟩
   have hFs:F.size=64:=by rw [hF];simp [u8s,hTl]
   have hFo:F.all (·.oneCell')=true:=by rw [hF];exact u8s_one _
   rw [←hT,←hF] at hb
   rw [←hN]
   have BJ:=zh hb;have N2:=zh hN2;have TL:=zh hTl;have NX:=zh hnx;have HF:=zh hF;have FS:=zh hFs;have FO:=zh hFo;have OO:=zh hI.o;have BB:=zh hI.b;have CC:=zh hI.c;have DD:=zh hI.d;have BLN:=zh (cblks_length key nonce n j)
   clear hb hN2 hTl hnx hF hFs hFo hI hT hN hco
   go_wp2_with (first
    | (refine wpList_load_all zr 22 _ zr w.heap.size zr _ Tryz.underlying22 zr C _ CC.out (by rw [CS.out];exact info32b) ?_)
    | (refine wpList_load_all zr 214 _ zr (w.heap.size+1) zr _ Tryz.underlying214 zr D _ DD.out (by rw [DS.out];exact info12) ?_)
    | (go_at_call 176;refine (BJ.out _).mono ?_;rintro e w2 ⟨rfl,hb2⟩;have O2:=zh (OO.out.below hb2);have C2:=zh (CC.out.below hb2 CC.out.lt);have D2:=zh (DD.out.below hb2 DD.out.lt);have B2:=zh (BB.out.trans (hb2.mono BB.out.size));clear hb2)
    | (refine wpList_store_new zr 259 _ _ zr zr F _ _ zr zr (by rw [FS.out];exact cinfo64) (by rw [FS.out,XS.out]) FO.out ?_;have F3:=zh (at_new w2 F 259);have O3:=zh (O2.out.below ((Below.refl _ _).alloc (Nat.le_refl _) (.cells F 259)));have C3:=zh (C2.out.alloc (.cells F 259));have D3:=zh (D2.out.alloc (.cells F 259));have B3:=zh (B2.out.alloc B2.out.size (.cells F 259));generalize w2.alloc (.cells F 259)=w3 at *;generalize w2.heap.size=bd at *)
    | (at_builtin;refine wpList_append_bytes zr _ _ zr (w.heap.size+1+1) (.slice ao (64*j) co) (.slice (some ⟨bd,0,none⟩) 64 64) (cblks key nonce n j) T zr O3.out zr (at_sl (by have h:=F3.out;rw [HF.out] at h;exact h) TL.out) (by rw [TL.out,BLN.out];omega) (by have:=D3.out.lt;omega) ?_;intro v4 w4 ho4 hk4 hb4;have O4:Hid (OwnB w4 (w.heap.size+1+1) v4 (cblks key nonce n (j+1))):=(by rw [NX.out];exact ho4);have C4:=zh (C3.out.below hb4 (by omega));have D4:=zh (D3.out.below hb4 (by omega));have B4:=zh (B3.out.trans (hb4.mono (by omega)));clear ho4 hk4 hb4))
   rw [N2.out]
   go_roundw
   case rel=>exact ⟨j+1,by omega,rfl,O4.out,C4.out,D4.out,B4.out⟩
   case measure=>
    obtain ⟨a5,c5,hv5,_,_⟩:=O4.out.open
    rw [cblks_length] at hv5
    subst hv5
    simp only
    omega
  ·have hge:¬ 64*(j:Int) < (size:Int):=by omega
   have hst:=cstream_from key nonce n size j (by omega)
   have hsl:∀ a',(64*j≠0→a'=ao)→Sl wr (.slice a' size co) (cstream key nonce n size):=fun a' ha=>by
    obtain ⟨a6,c6,e6,_,hr6⟩:=hI.o.sl
    rw [cblks_length] at e6
    injection e6 with e61 _ e63
    have hl:=cstream_length key nonce n size
    refine ⟨a',co,by rw [hl],by rw [hl];omega,fun hne=>?_⟩
    have hp0:0 < size:=by
     rcases Nat.eq_zero_or_pos size with h | h
     ·rw [h] at hl;exact absurd (List.eq_nil_of_length_eq_zero hl) (by rw [←h];exact hne)
     ·exact h
    obtain ⟨bb,oo,e7,hlt7,hc7⟩:=hr6 (by intro e;have:=cblks_length key nonce n j;rw [e] at this;simp at this;omega)
    refine ⟨bb,oo,by rw [ha (by omega),e61,e7],hlt7,fun i hi=>?_⟩
    rw [hl] at hi
    rw [hc7 i (by rw [cblks_length];omega),←hst]
    simp [List.getD_eq_getElem?_getD,hi]
   have hsz:size≤co:=by omega
   have SL:=zh hsl;have BB:=zh hI.b
   clear hsl hst hI
   go_wp2_with fail
   go_ret
   refine ⟨_,rfl,?_,BB.out⟩
   exact SL.out _ (fun _=>rfl)
theorem cturn_joinB (b s:Lb8) (h:b.length=s.length):cturn b s=joinB b s:=by
 rw [cturn,←h,List.drop_length,List.append_nil];rfl
theorem splice_full (l:Lb8) (n:Nat) (h:l.length=n):Mem.splice (u8s (List.replicate n 0)).toArray 0 (u8s (l.take n))=(u8s l).toArray:=by
 subst h
 rw [List.take_length]
 have h1:List.drop (0+(u8s l).length) (u8s (List.replicate l.length 0)).toArray.toList=[]:=List.drop_of_length_le (by simp [u8s])
 unfold Mem.splice
 rw [h1,List.take_zero,List.nil_append,List.append_nil]
theorem two_made {w w4:World} {C D:Array Value} {m:Nat} (ho:w4.ownsRow ((w.alloc (.cells C 22)).alloc (.cells D 214)).heap.size 5 1 (.slice (some ⟨((w.alloc (.cells C 22)).alloc (.cells D 214)).heap.size,0,none⟩) m m) m (madeCells (Value.int .u8 0).cells (m*1)).toList)
 (hg:World.grownBy ((w.alloc (.cells C 22)).alloc (.cells D 214)) w4 none) :
 At w4 (w.heap.size+1+1) (u8s (List.replicate m 0)).toArray 5∧At w4 w.heap.size C 22∧At w4 (w.heap.size+1) D 214∧Below w.heap.size w w4:=by
 have aC:At ((w.alloc (.cells C 22)).alloc (.cells D 214)) w.heap.size C 22:=(at_new w C _).alloc _
 have aD:At ((w.alloc (.cells C 22)).alloc (.cells D 214)) (w.heap.size+1) D 214:=by
  have h:=at_new (w.alloc (.cells C 22)) D 214
  simpa using h
 have aB:Below w.heap.size w ((w.alloc (.cells C 22)).alloc (.cells D 214)):=((Below.refl _ _).alloc (Nat.le_refl _) _).alloc (by simp) _
 have key0:∀ b E t,At ((w.alloc (.cells C 22)).alloc (.cells D 214)) b E t→At w4 b E t:=fun b E t h=>by
  have hl:=h.lt
  unfold At at *
  rw [hg.block b hl (by simp)];exact h
 refine ⟨?_,key0 _ _ _ aC,key0 _ _ _ aD,aB.grown hg aB.size (fun _ h=>by cases h)⟩
 have h:=own_full ho
 rw [made_zeros] at h
 simpa using h
structure TuInv (L s:Lb8) (g:Nat) (w wr:World):Prop where
 row:At wr (w.heap.size+1+1) (u8s L).toArray 5
 st:At wr g (u8s s).toArray 5
 b:Below w.heap.size w wr
theorem turned_any (key nonce:Lb8) (n:BitVec 32) (l:Lb8) (v:Value) (lk:key.length=32) (ln:nonce.length=12) (hz:l.length≤1048576) (w:World) (hv:Sl w v l) (hL:CTabs w) :
 Calls Tryz.prog 159 #[.agg (u8s key).toArray,.agg (u8s nonce).toArray,.int .u32 (V n),v] w (SEnd w (cturn l (cstream key nonce n l.length))):=by
 have hst:=fun wx (h:Below w.heap.size w wx)=>stream_good key nonce n l.length lk ln hz wx (hL.below h (Nat.le_refl _))
 obtain ⟨s,hs⟩:∃ s,s=cstream key nonce n l.length:=⟨_,rfl⟩
 have ls:s.length=l.length:=by rw [hs];exact cstream_length _ _ _ _
 rw [←hs] at hst ⊢
 rw [cturn_joinB l s ls.symm]
 have hv0:=hv
 obtain ⟨a0,cap,rfl,_,_⟩:=hv
 have hsp:=splice_full l l.length rfl
 have jl:=joinTo_length l s ls.symm
 have jz:=joinTo_zero l s
 have ja:=joinTo_all l s ls.symm
 have jg:=fun j hj=>joinTo_get l s ls.symm j hj
 have js:=fun j hj=>joinTo_set l s ls.symm j hj
 have jB:=joinB_length l s ls.symm
 obtain ⟨m,hm⟩:∃ m,m=l.length:=⟨_,rfl⟩
 rw [←hm] at hst hsp jl ja jg js jB ls hz hv0 ⊢
 have hmin:min (m:Int) 1048576=(m:Int):=by omega
 have hmle:(m:Int)≤1048576:=by omega
 have hmlt:¬ (1048576:Int) < (m:Int):=by omega
 obtain ⟨C,hC⟩:∃ C,C=(u8s key).toArray:=⟨_,rfl⟩
 obtain ⟨D,hD⟩:∃ D,D=(u8s nonce).toArray:=⟨_,rfl⟩
 have hCs:C.size=32:=by rw [hC];simp [u8s,lk]
 have hDs:D.size=12:=by rw [hD];simp [u8s,ln]
 rw [←hC,←hD] at hst
 rw [←hC,←hD]
 obtain ⟨i8,hi8,hz8,hs8,hb8⟩:=info_parts infoU8
 have ST:=zh hst;have CS:=zh hCs;have DS:=zh hDs;have I8:=zh hi8;have Z8:=zh hz8;have S8:=zh hs8;have B8':=zh hb8;have HV:=zh hv0;have SP:=zh hsp
 have JL:=zh jl;have JZ:=zh jz;have JA:=zh ja;have JG:=zh jg;have JS:=zh js;have JB:=zh jB;have LS:=zh ls;have HM:=zh hm
 clear hst hCs hDs hi8 hz8 hs8 hb8 hC hD lk ln hL hv0 hsp jl jz ja jg js jB ls hm hs
 go_enter Tryz.func159,Tryz.ntmps159
 go_wp2_with (first
  | (refine wpList_make_full _ zr _ _ 63 zr ((w.alloc (.cells C 22)).alloc (.cells D 214)).heap.size 5 i8 (.int .u8 0) 1 Tryz.underlying63 I8.out Z8.out S8.out .i64 .i64 _ _ m zr zr rfl rfl (by rw [B8'.out];omega) (by simp [maxLen];omega) (Nat.le_refl _) ?_;intro w4 ho4 hg4;have hf:=two_made ho4 hg4;have R4:=zh hf.1;have C4:=zh hf.2.1;have D4:=zh hf.2.2.1;have B4:=zh hf.2.2.2;clear ho4 hg4 hf)
  | (refine wpList_copy_sl zr _ _ zr (w.heap.size+1+1) 0 m m (.slice a0 m cap) l zr zr (HV.out.below B4.out) m (by rw [←HM.out];exact (Nat.min_self m).symm) _ _ R4.out (by simp [u8s]) _ SP.out ?_;intro w5 ha5 hs5 ho5 hbb5;have R5:=zh ha5;have C5:=zh (at_keep C4.out ho5 (by omega));have D5:=zh (at_keep D4.out ho5 (by omega));have B5:=zh (hbb5 _ _ B4.out (by omega));clear ha5 hs5 ho5 hbb5)
  | (refine wpList_load_all zr 22 _ zr w.heap.size zr _ Tryz.underlying22 zr C _ C5.out (by rw [CS.out];exact info32b) ?_)
  | (refine wpList_load_all zr 214 _ zr (w.heap.size+1) zr _ Tryz.underlying214 zr D _ D5.out (by rw [DS.out];exact info12) ?_))
 refine (ST.out _ B5.out).mono ?_
 rintro e w6 ⟨g,rfl,hg6,hgl,hb6⟩
 rw [LS.out]
 have I6:Hid (TuInv (joinTo l s 0) s g w w6):=⟨by rw [JZ.out];exact R5.out.below hb6 R5.out.lt,hg6,B5.out.trans (hb6.mono B5.out.size)⟩
 have GNE:Hid (w.heap.size+1+1≠g):=by have:=R5.out.lt;show w.heap.size+1+1≠g;omega
 have GLE:Hid (w.heap.size≤g):=Nat.le_trans B5.out.size hgl
 clear hg6 hgl hb6 R4 C4 D4 B4 R5 C5 D5 B5 ST HV SP
 go_wp2_with fail
 go_loopw [10,11,26] (fun _ _ i wr=>∃ j:Nat,j≤m∧i=.int .i64 j∧TuInv (joinTo l s j) s g w wr) (fun _ _ i _=>m - (intOf i).toNat)
 case atStart=>exact ⟨0,by omega,rfl,I6.out⟩
 case round=>
  clear I6
  obtain ⟨j,hj,rfl,hI⟩:=hrel
  by_cases hlt:j < m
  ·obtain ⟨x,hxx⟩:∃ x,x=l.getD j 0:=⟨_,rfl⟩
   obtain ⟨y,hyy⟩:∃ y,y=s.getD j 0:=⟨_,rfl⟩
   have cj:wr.cell? ⟨w.heap.size+1+1,j,none⟩=some (.int .u8 (B8 x)):=by
    rw [hI.row.cell,List.getElem?_toArray,u8s_get _ _ (by rw [JL.out];exact hlt),JG.out j hlt,hxx];rfl
   have dj:wr.cell? ⟨g,j,none⟩=some (.int .u8 (B8 y)):=by
    rw [hI.st.cell,List.getElem?_toArray,u8s_get _ _ (by rw [LS.out];exact hlt),hyy];rfl
   have hset:(u8s (joinTo l s j)).toArray.setIfInBounds j (.int .u8 (B8 (x ^^^ y)))=(u8s (joinTo l s (j+1))).toArray:=by
    rw [←JS.out j hlt,←hxx,←hyy];exact u8s_set _ _ _
   have hEs:j < (u8s (joinTo l s j)).toArray.size:=by rw [List.size_toArray,u8s_length,JL.out];exact hlt
   have hk:=hI.row
   obtain ⟨E,hE⟩:∃ E,E=(u8s (joinTo l s j)).toArray:=⟨_,rfl⟩
   rw [←hE] at hk hset hEs
   have KK:=zh hk;have ST:=zh hset;have DS:=zh hEs;have SS:=zh hI.st;have BB:=zh hI.b
   have hlt':(j:Int) < (m:Int):=by omega
   clear hk hset hEs hI hE hxx hyy
   go_wp2_with (refine Mem.wpList_store_one zr 5 _ _ zr zr (w.heap.size+1+1) j (.int .u8 (B8 (x ^^^ y))) zr (by exact congrArg (Value.int .u8) (B8_xor x y)) zr infoB _ _ KK.out DS.out ?_;intro w7 a7 o7 b7;have K7:=zh a7;have S7:=zh (at_keep SS.out o7 (Ne.symm GNE.out));have B7:=zh (b7 _ _ BB.out (by omega));clear a7 o7 b7)
   go_roundw
   case rel=>exact ⟨j+1,by omega,by go_num,by rw [←ST.out];exact K7.out,S7.out,B7.out⟩
   case measure=>simp [intOf];omega
  ·have hjm:j=m:=by omega
   have hge:¬ (j:Int) < (m:Int):=by omega
   rw [hjm,JA.out] at hI
   have II:=zh hI
   clear hI hjm hlt hj
   go_wp2_with fail
   go_ret
   exact ⟨w.heap.size+1+1,by rw [JB.out];rfl,II.out.row,by omega,II.out.b⟩
end Sha
end Go.Proofs.YtplmfmpbkjnbaaaGreatDoor
