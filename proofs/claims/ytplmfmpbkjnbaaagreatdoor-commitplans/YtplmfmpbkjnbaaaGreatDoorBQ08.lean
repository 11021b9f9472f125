/- My own texts, merged. -/
import Derived.Test.YtplmfmpbkjnbaaaGreatDoorBQ02
import Derived.Test.YtplmfmpbkjnbaaaGreatDoorBQ00
import Derived.Laws.BitsAllLaws
import Derived.Lib.SliceRun
import Derived.Test.YtplmfmpbkjnbaaaGreatDoorBQ01
import Derived.Test.YtplmfmpbkjnbaaaGreatDoorBQMV
set_option maxRecDepth 100000
set_option maxHeartbeats 1000000
namespace Go.Proofs.YtplmfmpbkjnbaaaGreatDoor
namespace Sha
open Go.RowKit Mem
def SEnd (w:World) (L:Lb8) (e:Ending) (w':World):Prop:=
 ∃ g,e=.returned (.slice (some ⟨g,0,none⟩) L.length L.length)∧At w' g (u8s L).toArray 5∧w.heap.size≤g∧Below w.heap.size w w'
def RSEnd (w:World) (L:Lb8) (e:Ending) (w':World):Prop:=∃ v,e=.returned v∧Sl w' v L∧Below w.heap.size w w'
theorem sl_none (w:World):Sl w (.slice none 0 0) []:=⟨none,0,rfl,by simp,fun h=>absurd rfl h⟩
def sameB (l m:Lb8):Bool:=l == m
theorem sameB_self (l:Lb8):sameB l l=true:=by simp [sameB]
theorem sameB_len (l m:Lb8) (h:l.length≠m.length):sameB l m=false:=by
 unfold sameB
 rw [Bool.eq_false_iff]
 intro e
 exact h (by rw [beq_iff_eq.1 e])
theorem B8_inj {x y:BitVec 8} (h:B8 x=B8 y):x=y:=by
 unfold B8 at h
 exact BitVec.eq_of_toNat_eq (by omega)
theorem sameB_at (l m:Lb8) (j:Nat) (h:l.getD j 0≠m.getD j 0):sameB l m=false:=by
 unfold sameB
 rw [Bool.eq_false_iff]
 intro e
 exact h (by rw [beq_iff_eq.1 e])
theorem take_next (l m:Lb8) (j:Nat) (h1:j < l.length) (h2:j < m.length) (h:l.take j=m.take j) (hx:l.getD j 0=m.getD j 0):l.take (j+1)=m.take (j+1):=by
 have e1:l.getD j 0=l[j]:=by simp [h1]
 have e2:m.getD j 0=m[j]:=by simp [h2]
 rw [List.take_succ_eq_append_getElem h1,List.take_succ_eq_append_getElem h2,h,←e1,←e2,hx]
theorem same_any (l m:Lb8) (vl vm:Value) (w:World) (hl:Sl w vl l) (hm:Sl w vm m) (_bl:l.length≤9223372036854775807) (bm:m.length≤9223372036854775807) :
 Calls Tryz.prog 43 #[vl,vm] w fun e w'=>e=.returned (.bool (sameB l m))∧Below w.heap.size w w':=by
 have hl0:=hl
 have hm0:=hm
 obtain ⟨a1,c1,rfl,hc1,_⟩:=hl
 obtain ⟨a2,c2,rfl,hc2,_⟩:=hm
 obtain ⟨n,hn⟩:∃ n,n=l.length:=⟨_,rfl⟩
 obtain ⟨k,hk⟩:∃ k,k=m.length:=⟨_,rfl⟩
 have HL:=zh hl0;have HM:=zh hm0
 clear hl0 hm0
 by_cases hne:n≠k
 ·have hs:=sameB_len l m (by omega)
  rw [hs]
  rw [←hn,←hk]
  have hne':¬ (n:Int)=(k:Int):=by omega
  rw [←hn] at _bl;rw [←hk] at bm
  clear hs hn hk hc1 hc2 hne HL HM
  go_enter Tryz.func43,Tryz.ntmps43
  go_wp2
  go_ret
  exact ⟨rfl,Below.refl _ _⟩
 ·have hnk:n=k:=by omega
  subst hnk
  rw [←hn] at hc1 _bl
  rw [←hk] at hc2 bm
  have heq:(n:Int)=(n:Int):=rfl
  have HN:=zh hn;have HK:=zh hk
  rw [←hn,←hk]
  clear hn hk hne heq
  go_enter Tryz.func43,Tryz.ntmps43
  go_wp2
  go_loopw [5] (fun i wr=>∃ j:Nat,j≤n∧i=.int .i64 j∧l.take j=m.take j∧∃ q,wr=w.drewN q) (fun i _=>n - (intOf i).toNat)
  case atStart=>exact ⟨0,Nat.zero_le _,rfl,rfl,0,rfl⟩
  case round=>
   obtain ⟨j,hj,rfl,htk,q,rfl⟩:=hrel
   have HT:=zh htk;clear htk
   by_cases hlt:j < n
   ·obtain ⟨b1,o1,rfl,cl⟩:=sl_at (i:=j) HL.out (by rw [←HN.out];exact hlt)
    obtain ⟨b2,o2,rfl,cm⟩:=sl_at (i:=j) HM.out (by rw [←HK.out];exact hlt)
    have z0:(0:Int)≤(j:Int):=by omega
    have zn:(j:Int) < (n:Int):=by omega
    by_cases hxy:l.getD j 0=m.getD j 0
    ·have htn:=take_next l m j (by rw [←HN.out];exact hlt) (by rw [←HK.out];exact hlt) HT.out hxy
     rw [←hxy] at cm
     obtain ⟨x,hx⟩:∃ x,x=l.getD j 0:=⟨_,rfl⟩
     rw [←hx] at cl cm
     have HTN:=zh htn
     clear hxy hx htn
     go_wp2
     go_quiet (fail)
     go_wp2
     go_roundw
     case rel=>exact ⟨j+1,by omega,by go_num,HTN.out,_,rfl⟩
     case measure=>simp [intOf];omega
    ·have hs:=sameB_at l m j hxy
     obtain ⟨x,hx⟩:∃ x,x=l.getD j 0:=⟨_,rfl⟩
     obtain ⟨y,hy⟩:∃ y,y=m.getD j 0:=⟨_,rfl⟩
     rw [←hx] at cl hxy
     rw [←hy] at cm hxy
     have hbn:(B8 x != B8 y)=true:=by
      rw [bne_iff_ne];exact fun e=>hxy (B8_inj e)
     have hbe:¬ B8 x=B8 y:=fun e=>hxy (B8_inj e)
     have HS:=zh hs
     clear hs hx hy hxy
     go_wp2
     go_quiet (fail)
     go_wp2
     go_ret
     exact ⟨by rw [HS.out];rfl,⟨rfl,rfl,rfl,Nat.le_refl _,fun _ _=>rfl⟩⟩
   ·have hjn:j=n:=by omega
    have hge:¬ (j:Int) < (n:Int):=by omega
    have hs:Hid (sameB l m=true):=by
     have h:=HT.out
     rw [hjn,HN.out,List.take_length] at h
     have h2:l.length=m.length:=by rw [←HN.out,←HK.out]
     rw [h2,List.take_length] at h
     show sameB l m=true
     rw [h];exact sameB_self m
    clear hjn hlt
    go_wp2
    go_ret
    exact ⟨by rw [hs.out];rfl,⟨rfl,rfl,rfl,Nat.le_refl _,fun _ _=>rfl⟩⟩
def SlB (F:Foot) (w:World) (v:Value) (l:Lb8):Prop:=SlR F w 1 v l.length (u8s l)
theorem SlB.sl {F:Foot} {w:World} {v:Value} {l:Lb8} (h:SlB F w v l):Sl w v l:=by
 obtain ⟨_,a,cap,rfl,hc,hr⟩:=h
 refine ⟨a,cap,rfl,hc,fun hne=>?_⟩
 obtain ⟨bb,oo,ea,_,hlt,hcell⟩:=hr (fun h0=>hne (List.eq_nil_of_length_eq_zero h0))
 exact ⟨bb,oo,ea,hlt,fun i hi=>hcell i _ (u8s_get l i hi)⟩
theorem SlB.keep {F:Foot} {w w':World} {v:Value} {l:Lb8} (h:SlB F w v l) (hs:w.heap.size≤w'.heap.size) (hk:∀ k,F k→k < w.heap.size→w'.heap[k]?=w.heap[k]?):SlB F w' v l:=SlR.keep h hs hk
theorem SlB.mono {F G:Foot} {w:World} {v:Value} {l:Lb8} (h:SlB F w v l) (hs:∀ k,F k→k < w.heap.size→G k):SlB G w v l:=SlR.mono h hs
theorem OwnB.slB {w:World} {B:Nat} {v:Value} {l:Lb8} (h:OwnB w B v l):SlB (fun k=>B≤k) w v l:=ownsRow_slR h
theorem slB_nil (F:Foot) (w:World):SlB F w (.slice none 0 0) []:=SlR.nil F w 1
def fillB (b:Lb8) (size:Nat):Lb8:=b++List.replicate (size - b.length) 0
theorem Sl.but_at {w w':World} {v:Value} {l:Lb8} {br:Nat} {C:Array Value} {t:TypeId} (h:Sl w v l) (hC:At w br C t) (hno:∀ (k:Nat) (x:Int),C[k]?≠some (.int .u8 x)) (hb:But br w w'):Sl w' v l:=by
 obtain ⟨a,cap,rfl,hc,hr⟩:=h
 refine ⟨a,cap,rfl,hc,fun hne=>?_⟩
 obtain ⟨bb,oo,rfl,hlt,hcell⟩:=hr hne
 have h0:0 < l.length:=List.length_pos_iff.2 hne
 have hbn:bb≠br:=by
  rintro rfl
  have h1:=hcell 0 h0
  rw [hC.cell] at h1
  exact hno _ _ h1
 refine ⟨bb,oo,rfl,Nat.lt_of_lt_of_le hlt hb.size,fun i hi=>?_⟩
 rw [World.cell?_of_block (w:=w) (w':=w') (a:=⟨bb,oo+i,none⟩) (hb.block bb hlt hbn)]
 exact hcell i hi
def rdRow (v:Value) (e:Nat):Array Value:=#[v,.int .i64 (e:Int)]
theorem rdRow_no (a:Option Addr) (n cap e:Nat) (k:Nat) (x:Int):(rdRow (.slice a n cap) e)[k]?≠some (.int .u8 x):=by
 unfold rdRow
 match k with
 | 0=>simp
 | 1=>simp
 | k+2=>simp
abbrev RdAcc:=World→Nat→Lb8→Nat→Prop
structure PkEnd (R:RdAcc) (w:World) (br:Nat) (b:Lb8) (e:Nat) (w':World):Prop where
 r:R w' br b e
 o:But br w w'
 k:∀ B x,Below B x w→B≤br→Below B x w'
theorem PkEnd.trans {R:RdAcc} {w w1 w2:World} {br:Nat} {b1 b2:Lb8} {e1 e2:Nat} (h:PkEnd R w br b1 e1 w1) (k:PkEnd R w1 br b2 e2 w2):PkEnd R w br b2 e2 w2:=
 ⟨k.r,But.same h.o k.o,fun B x hB hle=>k.k B x (h.k B x hB hle) hle⟩
end Sha
end Go.Proofs.YtplmfmpbkjnbaaaGreatDoor
namespace Go.Proofs.YtplmfmpbkjnbaaaGreatDoor
namespace Sha
open Go.RowKit Mem Go.Maps Go.Sort Go.Shelf
theorem pSorts (m:Nat):AnyZI.SortsIn Tryz.prog lSorted_ren Fence.wide m:=
 ⟨fun blk off cap ss W hH hblk hsz=>callsIn_wide.2 (AnyM.slices_Sort_int lSort blk off cap ss W hH hblk hsz),
  fun p cap W=>callsIn_wide.2 (AnyM.slices_Sort_int_none lSort p cap W)⟩
def sortI (l:List Int):List Int:=l.mergeSort (fun x y=>decide (x≤y))
theorem sortI_sorted {l:List Int} (h:l.Pairwise (·≤·)):sortI l=l:=List.mergeSort_of_pairwise (h.imp fun h=>decide_eq_true h)
theorem uInt16:Tryz.prog.underlying 3=some (.int .i64):=Tryz.underlying3
theorem pKeysI_any (mb:Option Nat) (W:World):Calls Tryz.prog 95 #[.map mb] W fun e w'=>e=.returned (.func (.func 124) #[] #[.pointer (some ⟨W.heap.size,0,none⟩)])∧w'=W.alloc (.cells #[.map mb] 176):=
 (callsIn_wide (n:=5)).1 (AnyZI.keys_in lKeys Fence.wide 5 trivial rfl mb W)
theorem pSortedI_any {w:World} {bm n:Nat} {f:Int→Option Value} {ks:List Int} (h:MapV w Tryz.prog 3 bm n f) (hnd:ks.Nodup) (hm:∀ x,x∈ks ↔ (f x).isSome=true) (hl:ks.length≤100000) :
 Calls Tryz.prog 86 #[.func (.func 124) #[] #[.pointer (some ⟨w.heap.size,0,none⟩)]] (w.alloc (.cells #[.map (some bm)] 176)) fun e w'=>∃ v,e=.returned v∧OwnV w' w.heap.size 3 v (iz (sortI ks))∧Below w.heap.size w w':=by
 obtain ⟨D0,hown,hperm,hsz⟩:=h.keys uInt16 hnd hm
 have hmax:Maps.size D0≤maxLen:=by rw [hsz];unfold maxLen;omega
 have hbytes:Maps.size D0*8≤140737488355328:=by rw [hsz];omega
 have hbl:=hown.lt
 have hseq:SeqGives Fence.wide 2 Tryz.prog 124 #[.pointer (some ⟨w.heap.size,0,none⟩)] encZ (fun ss=>ss.Perm (intKeys D0)) (Maps.size D0) (w.alloc (.cells #[.map (some bm)] 176)):=
  AnyZI.keys_gives (ρ:=lKeys_ren) { lKeys with } Fence.wide _ trivial rfl (by omega) w.heap.size bm n D0 _ (by simp) (by simp) (by
   obtain ⟨es,clock,hb,Ft,hs,hD⟩:=hown
   exact ⟨es,clock,(Below.heap_alloc _ _ bm hbl).trans hb,Ft,hs,hD⟩)
 have cS:=AnyZI.sorted_in lSorted Fence.wide 5 trivial trivial trivial trivial rfl (by omega) (pSorts _) (enters_of Tryz.func121 (by kernel_rfl) rfl) 124 #[.pointer (some ⟨w.heap.size,0,none⟩)] trivial (enters_of Tryz.func124 (by kernel_rfl) rfl) _ _ hmax hbytes _ hseq
 change CallsIn _ _ Tryz.prog 86 _ _ _ at cS
 refine (callsIn_wide.1 cS).mono ?_
 rintro e w' ⟨v9,ss,rfl,hS,hrow,_,hb⟩
 have e1:ss.mergeSort (fun x y=>decide (x≤y))=sortI ks:=mergeSort_of_perm_i (hS.trans hperm.symm)
 have e2:ss.length=(sortI ks).length:=by rw [←e1];simp
 rw [e1,e2] at hrow
 refine ⟨v9,rfl,?_,((Below.refl _ w).alloc (Nat.le_refl _) _).trans (hb.mono (by simp))⟩
 show World.ownsRow _ w.heap.size 3 1 _ (iz (sortI ks)).length (iz (sortI ks))
 rw [iz_length]
 exact ownsRow_base_a hrow (by simp)
end Sha
end Go.Proofs.YtplmfmpbkjnbaaaGreatDoor
namespace Go.Proofs.YtplmfmpbkjnbaaaGreatDoor
namespace Sha
open Go.ChangeShapes Go.WideShapes Go.ChangeAt Go.WideMaps Go.WideElems Go.RowKit Mem
set_option maxRecDepth 100000
theorem byte_of {n:Int} (h:(Lit.int .u8 n).wf=true):∃ x:BitVec 8,n=(x.toNat:Int):=by
 have h2:=h
 simp [Lit.wf,IntKind.min,IntKind.max,IntKind.signed,IntKind.bits] at h2
 refine ⟨BitVec.ofNat 8 n.toNat,?_⟩
 rw [BitVec.toNat_ofNat]
 omega
theorem bytes_of:∀ (zs:List Int),(∀ n∈zs,(Lit.int .u8 n).wf=true)→∃ l:Lb8,zs=l.map fun x=>(x.toNat:Int)
 | [],_=>⟨[],rfl⟩
 | z::zs,h=>by
  obtain ⟨x,hx⟩:=byte_of (h z (by simp))
  obtain ⟨l,hl⟩:=bytes_of zs (fun n hn=>h n (by simp [hn]))
  exact ⟨x::l,by simp [hx,hl]⟩
theorem cB:Tryz.prog.cellsOf 5=1:=by kernel_rfl
theorem cS:Tryz.prog.cellsOf 63=1:=by kernel_rfl
theorem sl_of {w:World} {a:Addr} {len:Nat} (cap:Nat) {zs:List Int} (hl:len≤cap) (hz:len≤zs.length) (hcell:∀ i,i < zs.length→w.cell? (a.add i)=some (.int .u8 (zs.getD i 0))) (hwz:∀ n∈zs,(Lit.int .u8 n).wf=true) :
 ∃ l,Sl w (.slice (some a) len cap) l∧l.length=len:=by
 obtain ⟨l,rfl⟩:=bytes_of zs hwz
 have hz':len≤l.length:=by simpa using hz
 have hlen:(l.take len).length=len:=by simp;omega
 refine ⟨l.take len,⟨some a,cap,by rw [hlen],by rw [hlen];exact hl,fun hne=>?_⟩,hlen⟩
 have hp:0 < len:=by
  rcases Nat.eq_zero_or_pos len with h | h
  ·subst h;simp at hne
  ·exact h
 have h0:=hcell 0 (by simp;omega)
 obtain ⟨b,o,ln⟩:=a
 have hsp:ln=none:=by simpa [Addr.add] using World.cell?_spot h0
 subst hsp
 refine ⟨b,o,rfl,?_,fun i hi=>?_⟩
 ·rw [Addr.add_mid] at h0
  exact block_lt_of_cell h0
 ·rw [hlen] at hi
  have h1:=hcell i (by simp;omega)
  rw [Addr.add_mid] at h1
  rw [h1]
  simp [List.getD_eq_getElem?_getD,hi,show i < l.length by omega]
theorem sl_nil (w:World) (cap:Nat):Sl w (.slice none 0 cap) []:=⟨none,cap,rfl,by simp,fun h=>absurd rfl h⟩
theorem open_sl_in {H:Type} {enc:TypeId × Value→H} {W:World} {n:Nat} {v:Value} {y:DataW H × List MemPlace} (hf:DataW.trod enc Tryz.prog W 0 (fun _=>true) true n 63 [v]=some y) :
 ∃ l,Sl W v l∧l.length≤9223372036854775807:=by
 rcases open_ints Tryz.underlying63 Tryz.underlying5 cB hf with ⟨hcs,_⟩ | ⟨a,len',cap',zs,hcs,_,hl,hm,hz,_,hcell,hwz⟩
 ·simp at hcs
  subst hcs
  exact ⟨[],sl_nil _ _,by simp⟩
 ·simp at hcs
  subst hcs
  simp only [if_true] at hz
  obtain ⟨l,h1,h2⟩:=sl_of cap' hl (by rw [hz];exact hl) hcell hwz
  refine ⟨l,h1,?_⟩
  unfold maxLen at hm
  omega
theorem open_bytes_in {H:Type} {enc:TypeId × Value→H} {W:World} {m n:Nat} {t:TypeId} {cs:List Value} {y:DataW H × List MemPlace} (hu:Tryz.prog.underlying t=some (.array n 5)) (hc:Tryz.prog.cellsOf t=n)
 (hf:DataW.trod enc Tryz.prog W 0 (fun _=>true) true m t cs=some y):∃ l:Lb8,cs=u8s l∧l.length=n:=by
 obtain ⟨xs,m',_,_,hl,hx,he⟩:=DataW.trod_array hu hf
 rw [hc] at hl
 have each:∀ i,i < n→∃ b:BitVec 8,cs[i]?=some (.int .u8 (b.toNat:Int)):=fun i hi=>by
  have h:=he i hi
  rw [cB,Nat.mul_one,List.getElem?_eq_getElem (by omega)] at h
  obtain ⟨k,hk,_,hw⟩:=DataW.trod_int Tryz.underlying5 h
  obtain ⟨b,rfl⟩:=byte_of hw
  refine ⟨b,?_⟩
  have h0:((cs.drop i).take 1)[0]?=some (.int .u8 (b.toNat:Int)):=by rw [hk];rfl
  simpa [List.getElem?_take,List.getElem?_drop] using h0
 obtain ⟨f,hff⟩:=Deep.choose_lt each
 refine ⟨(List.range n).map f,?_,by simp⟩
 apply List.ext_getElem?
 intro i
 by_cases hi:i < n
 ·rw [hff i hi];simp [u8s,hi]
 ·rw [List.getElem?_eq_none (by omega),List.getElem?_eq_none (by simp [u8s];omega)]
theorem cells_of_rows {H:Type} {enc:TypeId × Value→H} {P:Program} {w:World} {base:Nat} {sp:Nat→Bool} {held:Bool} {fuel:Nat} {t e1 e:TypeId} {n m:Nat} {k:IntKind} {cs:List Value} {rows:List (List Int)} {p:List MemPlace}
 (ht:P.underlying t=some (.array n e1)) (h1:P.underlying e1=some (.array m e)) (he:P.underlying e=some (.int k)) (hce:P.cellsOf e=1) (hc1:P.cellsOf e1=m) (hct:P.cellsOf t=n*m) (_hm:0 < m)
 (h:DataW.trod enc P w base sp held fuel t cs=some (.agg (rows.map (Lib.tabData k)),p)):cs.length=n*m∧∀ i,i < n→(cs.drop (i*m)).take m=(rows.getD i []).map fun z=>Value.int k z:=by
 obtain ⟨xs,m',_,hx,hl,hxl,hh⟩:=DataW.trod_array ht h
 refine ⟨by rw [hl,hct],fun i hi=>?_⟩
 have hi2:=hh i hi
 rw [hc1,List.getElem?_eq_getElem (by omega)] at hi2
 have hr:rows.map (Lib.tabData k)=xs.map (·.1):=by
  have:=congrArg Prod.fst hx
  simpa using this
 have hlen:rows.length=n:=by have:=congrArg List.length hr;simpa [hxl] using this
 have hrow:(xs[i]'(by omega)).1=(Lib.tabData k (rows.getD i []):DataW H):=by
  have e2:=congrArg (fun l=>l[i]?) hr
  simp only [List.getElem?_map,List.getElem?_eq_getElem (show i < xs.length by omega),List.getElem?_eq_getElem (show i < rows.length by omega),Option.map_some,Option.some.injEq] at e2
  rw [←e2]
  simp [List.getD_eq_getElem?_getD,hlen,hi]
 obtain ⟨x1,x2⟩:∃ a b,xs[i]'(by omega)=(a,b):=⟨_,_,rfl⟩
 rw [show xs[i]'(by omega)=((xs[i]'(by omega)).1,(xs[i]'(by omega)).2) from rfl,hrow] at hi2
 exact Lib.cells_of_tab h1 he hce hc1 hi2
end Sha
end Go.Proofs.YtplmfmpbkjnbaaaGreatDoor
