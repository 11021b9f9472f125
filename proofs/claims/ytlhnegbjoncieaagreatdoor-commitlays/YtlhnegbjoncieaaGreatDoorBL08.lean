/- My own texts, merged. -/
import Derived.Test.YtlhnegbjoncieaaGreatDoorBL04
import Derived.Test.YtlhnegbjoncieaaGreatDoorBL05
import Derived.Test.YtlhnegbjoncieaaGreatDoorBL06
import Derived.Test.YtlhnegbjoncieaaGreatDoorBL00
import Derived.Deep.DeepCutAuto
import Derived.Test.YtlhnegbjoncieaaGreatDoorBL02
import Derived.Test.YtlhnegbjoncieaaGreatDoorBLMV
set_option maxRecDepth 100000
set_option maxHeartbeats 1000000
namespace Go.Proofs.YtlhnegbjoncieaaGreatDoor
namespace Sha
open Go.RowKit Mem
def iz (l:List Int):List Value:=l.map (.int .i64)
theorem iz_length (l:List Int):(iz l).length=l.length:=by simp [iz]
theorem iz_snoc (l:List Int) (x:Int):iz (l++[x])=iz l++[.int .i64 x]:=by simp [iz]
theorem iz_get (l:List Int) (i:Nat) (h:i < l.length):(iz l)[i]?=some (.int .i64 (l.getD i 0)):=by simp [iz,List.getD_eq_getElem?_getD,h]
def SlI (w:World) (v:Value) (l:List Int):Prop:=
 ∃ a cap,v=.slice a l.length cap∧l.length≤cap∧(l≠[]→∃ b o,a=some ⟨b,o,none⟩∧b < w.heap.size∧∀ i,i < l.length→w.cell? ⟨b,o+i,none⟩=some (.int .i64 (l.getD i 0)))
theorem SlI.nil (w:World):SlI w (.slice none 0 0) []:=⟨none,0,rfl,Nat.le_refl _,fun h=>absurd rfl h⟩
theorem SlI.hd {w:World} {v:Value} {l:List Int} (h:SlI w v l):∃ a c,v=.slice a l.length c:=let ⟨a,c,e,_⟩:=h;⟨a,c,e⟩
theorem SlI.below {w wr:World} {v:Value} {l:List Int} (h:SlI w v l) (hb:Below w.heap.size w wr):SlI wr v l:=by
 obtain ⟨a,cap,e,hc,hr⟩:=h
 refine ⟨a,cap,e,hc,fun hne=>?_⟩
 obtain ⟨b,o,ea,hlt,hcell⟩:=hr hne
 exact ⟨b,o,ea,Nat.lt_of_lt_of_le hlt hb.size,fun i hi=>(hb.cell (p:=⟨b,o+i,none⟩) hlt).trans (hcell i hi)⟩
theorem SlI.same {w wr:World} {v:Value} {l:List Int} (h:SlI w v l) (hs:w.heap.size≤wr.heap.size) (hk:∀ b o n c,v=.slice (some ⟨b,o,none⟩) n c→wr.heap[b]?=w.heap[b]?):SlI wr v l:=by
 obtain ⟨a,cap,e,hc,hr⟩:=h
 refine ⟨a,cap,e,hc,fun hne=>?_⟩
 obtain ⟨b,o,ea,hlt,hcell⟩:=hr hne
 refine ⟨b,o,ea,Nat.lt_of_lt_of_le hlt hs,fun i hi=>?_⟩
 rw [World.cell?_of_block (w:=w) (w':=wr) (a:=⟨b,o+i,none⟩) (hk b o l.length cap (by rw [e,ea]))]
 exact hcell i hi
theorem sli_at {w:World} {a:Option Addr} {n c i:Nat} {l:List Int} (h:SlI w (.slice a n c) l) (hn:n=l.length) (hi:i < n):∃ b o,a=some ⟨b,o,none⟩∧b < w.heap.size∧w.cell? ⟨b,o+i,none⟩=some (.int .i64 (l.getD i 0)):=by
 obtain ⟨a',c',e,_,hr⟩:=h
 obtain ⟨b,o,ea,hlt,hcell⟩:=hr (by intro e0;subst e0;simp at hn;omega)
 injection e with e1 _ _
 subst e1
 exact ⟨b,o,ea,hlt,hcell i (by omega)⟩
theorem ownV_sli {w:World} {B:Nat} {e:TypeId} {v:Value} {l:List Int} (h:OwnV w B e v (iz l)):SlI w v l:=by
 obtain ⟨a,cap,rfl,hc,hr⟩:=OwnV.open h
 rw [iz_length] at hc
 refine ⟨a,cap,by rw [iz_length],hc,fun hne=>?_⟩
 obtain ⟨g,ea,_,hlt,hcell⟩:=hr (by intro e0;exact hne (by simpa [iz] using e0))
 exact ⟨g,0,ea,hlt,fun i hi=>by rw [Nat.zero_add];exact hcell i _ (iz_get l i hi)⟩
def IEnd (w:World) (L:List Int) (e:Ending) (w':World):Prop:=∃ v,e=.returned v∧SlI w' v L∧Below w.heap.size w w'
end Sha
end Go.Proofs.YtlhnegbjoncieaaGreatDoor
namespace Go.Proofs.YtlhnegbjoncieaaGreatDoor
namespace Sha
open Go.RowKit Mem
set_option maxRecDepth 100000
def zL (p:Nat):List Int:=(List.range (itn p)).map fun i=>(lev p i:Int)
def rsC (p:Nat) (vL vF:Value):Array Value:=#[.int .i64 (p:Int),vL,vF]
theorem rsC_one (p:Nat) (a b:Option Addr) (n c m d:Nat):(rsC p (.slice a n c) (.slice b m d)).all (·.oneCell')=true:=by simp [rsC,Value.oneCell']
structure RS (w:World) (p:Nat) (vL vF:Value):Prop where
 l:SlI w vL (zL p)
 f:SlI w vF (fstL p (itn p))
theorem RS.below {w w':World} {p:Nat} {vL vF:Value} (h:RS w p vL vF) (hb:Below w.heap.size w w'):RS w' p vL vF:=⟨h.l.below hb,h.f.below hb⟩
def kz (p i n:Nat):List Int:=(List.range n).map fun t=>((fst p i+t:Nat):Int)
theorem kz_length (p i n:Nat):(kz p i n).length=n:=by simp [kz]
theorem kz_get (p i n t:Nat) (h:t < n):(kz p i n).getD t 0=((fst p i+t:Nat):Int):=by simp [kz,List.getD_eq_getElem?_getD,h]
def KZ (p:Nat) (z:Int):List Int:=if (p:Int)≤z∧z < (itn p:Int) then kz p z.toNat (many p z.toNat) else []
theorem elemInt:elemB Tryz.prog 61 3 (.int .i64 0) 8:=⟨Tryz.underlying61,by kernel_rfl⟩
structure KI (B f n0:Nat) (p i:Nat) (vo:Value) (w1 wr:World) (j:Nat):Prop where
 o:OwnV wr B 3 vo (iz (kz p i j))
 b:Below w1.heap.size w1 wr
end Sha
end Go.Proofs.YtlhnegbjoncieaaGreatDoor
namespace Go.Proofs.YtlhnegbjoncieaaGreatDoor
namespace Sha
open Go.RowKit Mem Go.Maps Go.Sort Go.Shelf
theorem pSorts (m:Nat):AnyZI.SortsIn Tryz.prog lSorted_ren Fence.wide m:=
 ⟨fun blk off cap ss W hH hblk hsz=>callsIn_wide.2 (AnyM.slices_Sort_int lSort blk off cap ss W hH hblk hsz),
  fun p cap W=>callsIn_wide.2 (AnyM.slices_Sort_int_none lSort p cap W)⟩
def sortI (l:List Int):List Int:=l.mergeSort (fun x y=>decide (x≤y))
theorem sortI_sorted {l:List Int} (h:l.Pairwise (·≤·)):sortI l=l:=List.mergeSort_of_pairwise (h.imp fun h=>decide_eq_true h)
theorem uInt16:Tryz.prog.underlying 3=some (.int .i64):=Tryz.underlying3
theorem pKeysI_any (mb:Option Nat) (W:World):Calls Tryz.prog 84 #[.map mb] W fun e w'=>e=.returned (.func (.func 108) #[] #[.pointer (some ⟨W.heap.size,0,none⟩)])∧w'=W.alloc (.cells #[.map mb] 165):=
 (callsIn_wide (n:=5)).1 (AnyZI.keys_in lKeys Fence.wide 5 trivial rfl mb W)
theorem pSortedI_any {w:World} {bm n:Nat} {f:Int→Option Value} {ks:List Int} (h:MapV w Tryz.prog 3 bm n f) (hnd:ks.Nodup) (hm:∀ x,x∈ks ↔ (f x).isSome=true) (hl:ks.length≤100000) :
 Calls Tryz.prog 69 #[.func (.func 108) #[] #[.pointer (some ⟨w.heap.size,0,none⟩)]] (w.alloc (.cells #[.map (some bm)] 165)) fun e w'=>∃ v,e=.returned v∧OwnV w' w.heap.size 3 v (iz (sortI ks))∧Below w.heap.size w w':=by
 obtain ⟨D0,hown,hperm,hsz⟩:=h.keys uInt16 hnd hm
 have hmax:Maps.size D0≤maxLen:=by rw [hsz];unfold maxLen;omega
 have hbytes:Maps.size D0*8≤140737488355328:=by rw [hsz];omega
 have hbl:=hown.lt
 have hseq:SeqGives Fence.wide 2 Tryz.prog 108 #[.pointer (some ⟨w.heap.size,0,none⟩)] encZ (fun ss=>ss.Perm (intKeys D0)) (Maps.size D0) (w.alloc (.cells #[.map (some bm)] 165)):=
  AnyZI.keys_gives (ρ:=lKeys_ren) { lKeys with } Fence.wide _ trivial rfl (by omega) w.heap.size bm n D0 _ (by simp) (by simp) (by
   obtain ⟨es,clock,hb,Ft,hs,hD⟩:=hown
   exact ⟨es,clock,(Below.heap_alloc _ _ bm hbl).trans hb,Ft,hs,hD⟩)
 have cS:=AnyZI.sorted_in lSorted Fence.wide 5 trivial trivial trivial trivial rfl (by omega) (pSorts _) (enters_of Tryz.func101 (by kernel_rfl) rfl) 108 #[.pointer (some ⟨w.heap.size,0,none⟩)] trivial (enters_of Tryz.func108 (by kernel_rfl) rfl) _ _ hmax hbytes _ hseq
 change CallsIn _ _ Tryz.prog 69 _ _ _ at cS
 refine (callsIn_wide.1 cS).mono ?_
 rintro e w' ⟨v9,ss,rfl,hS,hrow,_,hb⟩
 have e1:ss.mergeSort (fun x y=>decide (x≤y))=sortI ks:=mergeSort_of_perm_i (hS.trans hperm.symm)
 have e2:ss.length=(sortI ks).length:=by rw [←e1];simp
 rw [e1,e2] at hrow
 refine ⟨v9,rfl,?_,((Below.refl _ w).alloc (Nat.le_refl _) _).trans (hb.mono (by simp))⟩
 show World.ownsRow _ w.heap.size 3 1 _ (iz (sortI ks)).length (iz (sortI ks))
 rw [iz_length]
 exact ownsRow_base_a hrow (by simp)
end Sha
end Go.Proofs.YtlhnegbjoncieaaGreatDoor
