/- My own texts, merged. -/
import Derived.Test.YtlhnegbjoncieaaGreatDoorBL20
import Derived.BigGuardPart
import Derived.Test.YtlhnegbjoncieaaGreatDoorBL04
import Derived.Test.YtlhnegbjoncieaaGreatDoorBL01
import Derived.Test.YtlhnegbjoncieaaGreatDoorBL00
import Derived.Test.YtlhnegbjoncieaaGreatDoorBL12
import Derived.Test.YtlhnegbjoncieaaGreatDoorBL09
namespace Go.Proofs.YtlhnegbjoncieaaGreatDoor
namespace Sha
open Go.RowKit Mem
end Sha
end Go.Proofs.YtlhnegbjoncieaaGreatDoor
namespace Go.Proofs.YtlhnegbjoncieaaGreatDoor
namespace Sha
def pr:Nat→List Nat
 | 0=>[]
 | q+1=>if 2≤q∧(pr q).all (fun d=>q % d != 0) then pr q++[q] else pr q
end Sha
end Go.Proofs.YtlhnegbjoncieaaGreatDoor
namespace Go.Proofs.YtlhnegbjoncieaaGreatDoor
namespace Sha
open Go.RowKit Mem
end Sha
end Go.Proofs.YtlhnegbjoncieaaGreatDoor
namespace Go.Proofs.YtlhnegbjoncieaaGreatDoor
namespace Sha
open Go.RowKit Mem
def Wl (w:World) (v:Value) (l:List (BitVec 32)):Prop:=∃ g c,v=.slice (some ⟨g,0,none⟩) l.length c∧g < w.heap.size∧∀ i,i < l.length→w.cell? ⟨g,i,none⟩=some (.int .u32 (V (l.getD i 0)))
theorem OwnV.wl {w:World} {B:Nat} {e:TypeId} {v:Value} {l:List (BitVec 32)} (h:OwnV w B e v (u32s l)) (hl:l.length=8):Wl w v l:=by
 obtain ⟨a,c,rfl,_,hr⟩:=h.open
 obtain ⟨g,rfl,_,hg,hc⟩:=hr (by intro e;rw [←u32s_length,e] at hl;simp at hl)
 exact ⟨g,c,by rw [u32s_length],hg,fun i hi=>hc i _ (u32s_get l i hi)⟩
structure Ok6 (m:Nat) (s:St6):Prop where
 n1:1≤s.n
 n2:s.n≤1024
 b:s.b.length=s.n*256
 wf:WfP s.n s.w
 sh:∀ k,k < s.sh.length→(s.sh.getD k []).length=s.n*256
 w:s.w.length≤m
 t:s.t.length≤m
 s16:s.sh.length≤16
theorem Ok6.mono {m m':Nat} {s:St6} (h:Ok6 m s) (hm:m≤m'):Ok6 m' s:=⟨h.n1,h.n2,h.b,h.wf,h.sh,Nat.le_trans h.w hm,Nat.le_trans h.t hm,h.s16⟩
def stNew (n:Nat):St6:=⟨n,List.replicate (n*256) 0,[],[],[]⟩
theorem ok_new (n:Nat) (h1:1≤n) (h2:n≤1024):Ok6 0 (stNew n):=
 ⟨h1,h2,by simp [stNew],fun j h=>by simp [stNew] at h,fun k h=>by simp [stNew] at h,by simp [stNew],by simp [stNew],by simp [stNew]⟩
theorem ok_write {m:Nat} {s:St6} (h:Ok6 m s) (n:Nat) (x:Lb8) (hn:n < s.n) (hx:x.length=256):Ok6 (m+1) (dvWrite s n x):=by
 refine ⟨h.n1,h.n2,h.b,fun j hj=>?_,h.sh,?_,?_,h.s16⟩
 ·simp only [dvWrite,List.length_append,List.length_singleton] at hj
  by_cases hlt:j < s.w.length
  ·have e:(s.w++[(n,x)]).getD j (0,[])=s.w.getD j (0,[]):=by
    rw [List.getD_eq_getElem?_getD,List.getD_eq_getElem?_getD,List.getElem?_append_left hlt]
   show ((s.w++[(n,x)]).getD j (0,[])).1 < s.n∧((s.w++[(n,x)]).getD j (0,[])).2.length=256
   rw [e];exact h.wf j hlt
  ·have hj2:j=s.w.length:=by omega
   have e:(s.w++[(n,x)]).getD j (0,[])=(n,x):=by
    rw [List.getD_eq_getElem?_getD,List.getElem?_append_right (by omega),hj2];simp
   show ((s.w++[(n,x)]).getD j (0,[])).1 < s.n∧((s.w++[(n,x)]).getD j (0,[])).2.length=256
   rw [e];exact ⟨hn,hx⟩
 ·have:=h.w;simp [dvWrite];omega
 ·have:=h.t;simp [dvWrite];omega
theorem ok_flush {m:Nat} {s:St6} (h:Ok6 m s):Ok6 (m+1) (stFlush s):=
 ⟨h.n1,h.n2,flushTo_length h.wf h.b _ (Nat.le_refl _),fun j hj=>by simp [stFlush] at hj,h.sh,by simp [stFlush],by have:=h.t;simp [stFlush];omega,h.s16⟩
def stRead (s:St6) (n:Nat):Lb8:=readTo n (blkOf s.b n) s.w s.w.length
abbrev StAcc:=Foot→Nat→World→St6→Prop
structure Step6 where
 k:BitVec 8
 n:Int
 a:Int
 x:BitVec 8
 q:Nat
deriving Inhabited
def stepC6 (s:Step6):Array Value:=#[.int .u8 (B8 s.k),.int .i64 s.n,.int .i64 s.a,.int .u8 (B8 s.x),.int .u64 (s.q:Int)]
def SlS6 (w:World) (v:Value) (l:List Step6):Prop:=
 ∃ a cap,v=.slice a l.length cap∧l.length≤cap∧(l≠[]→∃ bb oo,a=some ⟨bb,oo,none⟩∧bb < w.heap.size∧∀ i,i < l.length→∀ j,j < 5→w.cell? ⟨bb,oo+(5*i+j),none⟩=(stepC6 (l.getD i default))[j]?)
theorem SlS6.below {w wr:World} {v:Value} {l:List Step6} (h:SlS6 w v l) (hb:Below w.heap.size w wr):SlS6 wr v l:=by
 obtain ⟨a,cap,e,hc,hr⟩:=h
 refine ⟨a,cap,e,hc,fun hne=>?_⟩
 obtain ⟨bb,oo,ea,hlt,hcell⟩:=hr hne
 exact ⟨bb,oo,ea,Nat.lt_of_lt_of_le hlt hb.size,fun i hi j hj=>by rw [hb.cell (p:=⟨bb,oo+(5*i+j),none⟩) hlt];exact hcell i hi j hj⟩
theorem SlS6.take {w:World} {a:Option Addr} {n cap:Nat} {l:List Step6} (h:SlS6 w (.slice a n cap) l) (m:Nat) (hm:m≤l.length):SlS6 w (.slice a m cap) (l.take m):=by
 obtain ⟨a',cap',e,hc,hr⟩:=h
 injection e with e1 _ e3
 subst e1;subst e3
 have hl:(l.take m).length=m:=by rw [List.length_take];omega
 refine ⟨a,cap,by rw [hl],by rw [hl];omega,fun hne=>?_⟩
 obtain ⟨bb,oo,ea,hlt,hcell⟩:=hr (fun h0=>hne (by rw [h0];simp))
 refine ⟨bb,oo,ea,hlt,fun i hi j hj=>?_⟩
 rw [hl] at hi
 rw [hcell i (by omega) j hj]
 simp [List.getD_eq_getElem?_getD,hi]
end Sha
end Go.Proofs.YtlhnegbjoncieaaGreatDoor
namespace Go.Proofs.YtlhnegbjoncieaaGreatDoor
namespace Sha
open Go.RowKit Mem
def pBl (bb n:Nat):Value:=.slice (some ⟨bb,0,none⟩) (n*256) (n*256)
def pRow (bb n:Nat) (vw vs vt:Value):Array Value:=#[pBl bb n,vw,vs,vt]
structure PM (G D:Foot) (br bb:Nat) (w:World) (s:St6) (vw vs vt:Value):Prop where
 fb:G bb
 ne:bb≠br
 by8:At w bb (u8s s.b).toArray 5
 len:s.b.length=s.n*256
 ow:∀ k,vw.ownBlock=some k→G k∧k≠br
 os:∀ k,vs.ownBlock=some k→G k∧k≠br
 ot:∀ k,vt.ownBlock=some k→G k∧k≠br
 dF:∀ k,D k→G k∧k < w.heap.size∧k≠br∧k≠bb∧vw.ownBlock≠some k∧vs.ownBlock≠some k∧vt.ownBlock≠some k
 hw:∃ ws:List (Nat × Value),Each2 (fun p q=>p.1=q.1∧SlB D w p.2 q.2) ws s.w∧w.ownsRow 0 159 2 vw s.w.length (putC ws)
 hs:∃ hs:List Value,Each2 (fun p q=>SlB D w p q) hs s.sh∧w.ownsRow 0 31 1 vs s.sh.length hs
 ht:w.ownsRow 0 3 1 vt s.t.length (i64s s.t)
section
variable {F G D:Foot} {br bb:Nat} {w w' w1:World} {s:St6} {vw vs vt vw' vs' vt':Value}
theorem PM.keep (h:PM G D br bb w s vw vs vt) (hs:w.heap.size≤w'.heap.size) (hk:∀ k,G k→k≠br→k < w.heap.size→w'.heap[k]?=w.heap[k]?):PM G D br bb w' s vw vs vt:=by
 have hD:∀ k,D k→k < w.heap.size→w'.heap[k]?=w.heap[k]?:=fun k hd hlt=>hk k (h.dF k hd).1 (h.dF k hd).2.2.1 hlt
 obtain ⟨ws,h1,h2⟩:=h.hw
 obtain ⟨hs',h3,h4⟩:=h.hs
 refine ⟨h.fb,h.ne,?_,h.len,h.ow,h.os,h.ot,fun k hd=>⟨(h.dF k hd).1,Nat.lt_of_lt_of_le (h.dF k hd).2.1 hs,(h.dF k hd).2.2⟩,⟨ws,h1.mono fun _ _ h=>⟨h.1,h.2.keep hs hD⟩,ownsRow_keep h2 fun g hg=>hk g (h.ow g hg).1 (h.ow g hg).2 (World.ownsRow.lt h2 g hg).2⟩,⟨hs',h3.mono fun _ _ h=>h.keep hs hD,ownsRow_keep h4 fun g hg=>hk g (h.os g hg).1 (h.os g hg).2 (World.ownsRow.lt h4 g hg).2⟩,ownsRow_keep h.ht fun g hg=>hk g (h.ot g hg).1 (h.ot g hg).2 (World.ownsRow.lt h.ht g hg).2⟩
 have:=h.by8.lt
 have h8:=h.by8
 unfold At at *
 rw [hk bb h.fb h.ne this];exact h8
theorem PM.mono {H:Foot} (h:PM G D br bb w s vw vs vt) (hs:∀ k,G k→k < w.heap.size→H k):PM H D br bb w s vw vs vt:=by
 obtain ⟨ws,h1,h2⟩:=h.hw
 obtain ⟨hs',h3,h4⟩:=h.hs
 exact ⟨hs _ h.fb h.by8.lt,h.ne,h.by8,h.len,fun k hk=>⟨hs k (h.ow k hk).1 (World.ownsRow.lt h2 k hk).2,(h.ow k hk).2⟩,fun k hk=>⟨hs k (h.os k hk).1 (World.ownsRow.lt h4 k hk).2,(h.os k hk).2⟩,
  fun k hk=>⟨hs k (h.ot k hk).1 (World.ownsRow.lt h.ht k hk).2,(h.ot k hk).2⟩,fun k hk=>⟨hs k (h.dF k hk).1 (h.dF k hk).2.1,(h.dF k hk).2⟩,⟨ws,h1,h2⟩,⟨hs',h3,h4⟩,h.ht⟩
structure PV (F D:Foot) (br bb:Nat) (w:World) (s:St6) (vw vs vt:Value):Prop where
 box:F br
 lt:∀ k,F k→k < w.heap.size
 row:At w br (pRow bb s.n vw vs vt) 142
 m:PM F D br bb w s vw vs vt
def PSt (F:Foot) (br:Nat) (w:World) (s:St6):Prop:=∃ D bb vw vs vt,PV F D br bb w s vw vs vt
theorem PV.blt (h:PV F D br bb w s vw vs vt):br < w.heap.size:=h.lt br h.box
theorem PV.keep (h:PV F D br bb w s vw vs vt) (hs:w.heap.size≤w'.heap.size) (hk:∀ k,F k→k < w.heap.size→w'.heap[k]?=w.heap[k]?):PV F D br bb w' s vw vs vt:=by
 refine ⟨h.box,fun k hF=>Nat.lt_of_lt_of_le (h.lt k hF) hs,?_,h.m.keep hs fun k hF _ hlt=>hk k hF hlt⟩
 have h8:=h.row
 unfold At at *
 rw [hk br h.box h.blt];exact h8
theorem PV.below (h:PV F D br bb w s vw vs vt) (hb:Below w.heap.size w w'):PV F D br bb w' s vw vs vt:=h.keep hb.size fun k _ hlt=>hb.block k hlt
theorem PV.w_hd (h:PV F D br bb w s vw vs vt):∃ a c,vw=.slice a s.w.length c:=by
 obtain ⟨ws,_,h2⟩:=h.m.hw;exact rows_hd h2
theorem PV.t_hd (h:PV F D br bb w s vw vs vt):∃ a c,vt=.slice a s.t.length c:=rows_hd h.m.ht
theorem PV.ps (h:PV F D br bb w s vw vs vt):PSt F br w s:=⟨D,bb,vw,vs,vt,h⟩
theorem pv_set {D':Foot} {n':Nat} {w2:World} {s':St6} (h:PV F D br bb w s vw vs vt) (hn:n'=s'.n) (hc:Chg F w w1) (hA:At w2 br (pRow bb n' vw' vs' vt') 142) (ho:∀ k,k≠br→w2.heap[k]?=w1.heap[k]?)
 (hk:∀ B a,Below B a w1→B≤br→Below B a w2) (m:PM G D' br bb w1 s' vw' vs' vt') (hG:∀ k,G k→k < w1.heap.size→F k∨w.heap.size≤k):PV (grow F w w2) D' br bb w2 s' vw' vs' vt'∧Chg F w w2:=by
 subst hn
 have h12:=hk br w1 (Below.refl _ _) (Nat.le_refl _)
 refine ⟨⟨⟨.inl h.box,hA.lt⟩,grow_lt,hA,?_⟩,?_⟩
 ·have h2:=m.keep (w':=w2) h12.size fun k _ hne _=>ho k hne
  refine PM.mono (G:=fun k=>G k∧k < w1.heap.size) ?_ fun k hG' hlt=>⟨hG k hG'.1 hG'.2,hlt⟩
  have m1:PM (fun k=>G k∧k < w1.heap.size) D' br bb w1 s' vw' vs' vt':=m.mono fun k hg hlt=>⟨hg,hlt⟩
  exact m1.keep h12.size fun k _ hne _=>ho k hne
 ·refine ⟨h12.os.trans hc.os,h12.tape.trans hc.tape,h12.output.trans hc.output,Nat.le_trans hc.size h12.size,fun k hlt hn=>?_⟩
  have hne:k≠br:=fun e=>hn (e ▸ h.box)
  rw [ho k hne,hc.block k hlt hn]
theorem pv_end {w2:World} {s':St6} (h:PV (grow F w w2) D br bb w2 s' vw' vs' vt') (hc:Chg F w w2):StEnd PSt F br w s' w2:=⟨⟨_,h.ps,grow_ext⟩,hc⟩
theorem pm_bytes {b:Lb8} (h:PM G D br bb w s vw vs vt) (hl:b.length=s.n*256) (hA:At w' bb (u8s b).toArray 5) (hs:w.heap.size≤w'.heap.size) (ho:∀ k,k < w.heap.size→k≠bb→w'.heap[k]?=w.heap[k]?):PM G D br bb w' { s with b:=b } vw vs vt:=by
 have hD:∀ k,D k→k < w.heap.size→w'.heap[k]?=w.heap[k]?:=fun k hd hlt=>ho k hlt (h.dF k hd).2.2.2.1
 obtain ⟨ws,h1,h2⟩:=h.hw
 obtain ⟨hs',h3,h4⟩:=h.hs
 exact ⟨h.fb,h.ne,hA,hl,h.ow,h.os,h.ot,fun k hd=>⟨(h.dF k hd).1,Nat.lt_of_lt_of_le (h.dF k hd).2.1 hs,(h.dF k hd).2.2⟩,
  ⟨ws,h1.mono fun _ _ h=>⟨h.1,h.2.keep hs hD⟩,ownsRow_keep h2 fun g hg=>ho g (World.ownsRow.lt h2 g hg).2 fun e=>own_ne_at h2 h.by8 (by decide) (e ▸ hg)⟩,
  ⟨hs',h3.mono fun _ _ h=>h.keep hs hD,ownsRow_keep h4 fun g hg=>ho g (World.ownsRow.lt h4 g hg).2 fun e=>own_ne_at h4 h.by8 (by decide) (e ▸ hg)⟩,
  ownsRow_keep h.ht fun g hg=>ho g (World.ownsRow.lt h.ht g hg).2 fun e=>own_ne_at h.ht h.by8 (by decide) (e ▸ hg)⟩
theorem pv_bytes {b:Lb8} (h:PV F D br bb w s vw vs vt) (hl:b.length=s.n*256) (hA:At w' bb (u8s b).toArray 5) (hs:w.heap.size≤w'.heap.size) (ho:∀ k,k < w.heap.size→k≠bb→w'.heap[k]?=w.heap[k]?):PV F D br bb w' { s with b:=b } vw vs vt:=by
 refine ⟨h.box,fun k hF=>Nat.lt_of_lt_of_le (h.lt k hF) hs,?_,pm_bytes h.m hl hA hs ho⟩
 have h8:=h.row
 have h7:=h.blt
 unfold At at *
 rw [ho br h7 fun e=>h.m.ne e.symm];exact h8
theorem pm_nowait (h:PM G D br bb w s vw vs vt):PM G D br bb w { s with w:=[] } (.slice none 0 0) vs vt:=
 ⟨h.fb,h.ne,h.by8,h.len,fun k hk=>by simp [Value.ownBlock] at hk,h.os,h.ot,fun k hk=>⟨(h.dF k hk).1,(h.dF k hk).2.1,(h.dF k hk).2.2.1,(h.dF k hk).2.2.2.1,by simp [Value.ownBlock],(h.dF k hk).2.2.2.2.2⟩,⟨[],trivial,ownsRow_nil0 _ _ _ _⟩,h.hs,h.ht⟩
theorem pm_data {v:Value} {x:Lb8} (h:PM G D br bb w s vw vs vt) (hbr:br < w.heap.size) (hb:Below w.heap.size w w') (ho:OwnB w' w.heap.size v x):PM (fun k=>G k∨w.heap.size≤k) (fun k=>D k∨v.ownBlock=some k) br bb w' s vw vs vt∧SlB (fun k=>D k∨v.ownBlock=some k) w' v x:=by
 have h1:=h.keep (w':=w') hb.size fun k _ _ hlt=>hb.block k hlt
 obtain ⟨ws,h2,h3⟩:=h1.hw
 obtain ⟨hs',h4,h5⟩:=h1.hs
 have hsl:SlB (fun k=>D k∨v.ownBlock=some k) w' v x:=by
  refine ⟨by simp [u8s_length],?_⟩
  obtain ⟨a,cap,e,hc,hr⟩:=ho.open
  refine ⟨a,cap,e,hc,fun hne=>?_⟩
  obtain ⟨g,ea,_,hlt,hcell⟩:=hr (fun h0=>hne (by rw [h0];rfl))
  refine ⟨g,0,ea,.inr (by rw [e,ea];rfl),hlt,fun j u hu=>?_⟩
  have hj:j < x.length:=by
   have:=(List.getElem?_eq_some_iff.1 hu).1
   rwa [u8s_length] at this
  rw [Nat.zero_add,hcell j hj,←u8s_get x j hj,hu]
 refine ⟨⟨.inl h1.fb,h1.ne,h1.by8,h1.len,fun k hk=>⟨.inl (h1.ow k hk).1,(h1.ow k hk).2⟩,fun k hk=>⟨.inl (h1.os k hk).1,(h1.os k hk).2⟩,fun k hk=>⟨.inl (h1.ot k hk).1,(h1.ot k hk).2⟩,fun k hk=>?_,
  ⟨ws,h2.mono fun _ _ h=>⟨h.1,h.2.mono fun _ hk _=>.inl hk⟩,h3⟩,⟨hs',h4.mono fun _ _ h=>h.mono fun _ hk _=>.inl hk,h5⟩,h1.ht⟩,hsl⟩
 rcases hk with hk | hk
 ·obtain ⟨k1,k2,k3⟩:=h1.dF k hk
  exact ⟨.inl k1,k2,k3⟩
 ·have h6:=ho.lt k hk
  have h7:=h.by8.lt
  have e1:∀ {u:Value} {B z n:Nat} {e:TypeId} {xs:List Value},w.ownsRow B e z u n xs→u.ownBlock≠some k:=fun hu e=>by
   have:=(World.ownsRow.lt hu k e).2
   omega
  obtain ⟨_,_,hw0⟩:=h.hw
  obtain ⟨_,_,hs0⟩:=h.hs
  exact ⟨.inr h6.1,h6.2,by omega,by omega,e1 hw0,e1 hs0,e1 h.ht⟩
theorem pm_wait {l:List (Nat × Lb8)} {ws:List (Nat × Value)} (h:PM G D br bb w s vw vs vt) (hbr:br < w.heap.size) (hrow:∃ C,At w br C 142) (ha:App w w1 vw vw') (he:Each2 (fun p q=>p.1=q.1∧SlB D w p.2 q.2) ws l) (ho:w1.ownsRow 0 159 2 vw' l.length (putC ws)):PM (fun k=>G k∨w.heap.size≤k) D br bb w1 { s with w:=l } vw' vs vt:=by
 obtain ⟨C,hrow⟩:=hrow
 obtain ⟨ws0,h2,h3⟩:=h.hw
 obtain ⟨hs',h4,h5⟩:=h.hs
 have hD:∀ k,D k→k < w.heap.size→w1.heap[k]?=w.heap[k]?:=fun k hd hlt=>ha.k k hlt (h.dF k hd).2.2.2.2.1
 refine ⟨.inl h.fb,h.ne,?_,h.len,fun k hk=>?_,fun k hk=>⟨.inl (h.os k hk).1,(h.os k hk).2⟩,fun k hk=>⟨.inl (h.ot k hk).1,(h.ot k hk).2⟩,fun k hk=>?_,⟨ws,he.mono fun _ _ h=>⟨h.1,h.2.keep ha.size hD⟩,ho⟩,
  ⟨hs',h4.mono fun _ _ h=>h.keep ha.size hD,ownsRow_keep h5 fun g hg=>ha.k g (World.ownsRow.lt h5 g hg).2 (ownsRow_ne h5 h3 (by decide) g hg)⟩,ownsRow_keep h.ht fun g hg=>ha.k g (World.ownsRow.lt h.ht g hg).2 (ownsRow_ne h.ht h3 (by decide) g hg)⟩
 ·have h8:=h.by8
  have hlt:=h8.lt
  have hne:=own_ne_at h3 h8 (by decide)
  unfold At at *
  rw [ha.k bb hlt hne];exact h8
 ·rcases ha.b with e | ⟨g,e,hg⟩
  ·rw [e] at hk;exact ⟨.inl (h.ow k hk).1,(h.ow k hk).2⟩
  ·rw [e] at hk
   have:g=k:=by simpa using hk
   exact ⟨.inr (by omega),by omega⟩
 ·obtain ⟨k1,k2,k3,k4,k5,k6,k7⟩:=h.dF k hk
  refine ⟨.inl k1,Nat.lt_of_lt_of_le k2 ha.size,k3,k4,?_,k6,k7⟩
  rcases ha.b with e | ⟨g,e,hg⟩
  ·rw [e];exact k5
  ·rw [e];intro e2
   have:g=k:=by simpa using e2
   omega
theorem pm_trace {l:List Int} (h:PM G D br bb w s vw vs vt) (hbr:br < w.heap.size) (hrow:∃ C,At w br C 142) (ha:App w w1 vt vt') (ho:w1.ownsRow 0 3 1 vt' l.length (i64s l)):PM (fun k=>G k∨w.heap.size≤k) D br bb w1 { s with t:=l } vw vs vt':=by
 obtain ⟨C,hrow⟩:=hrow
 obtain ⟨ws0,h2,h3⟩:=h.hw
 obtain ⟨hs',h4,h5⟩:=h.hs
 have hD:∀ k,D k→k < w.heap.size→w1.heap[k]?=w.heap[k]?:=fun k hd hlt=>ha.k k hlt (h.dF k hd).2.2.2.2.2.2
 refine ⟨.inl h.fb,h.ne,?_,h.len,fun k hk=>⟨.inl (h.ow k hk).1,(h.ow k hk).2⟩,fun k hk=>⟨.inl (h.os k hk).1,(h.os k hk).2⟩,fun k hk=>?_,fun k hk=>?_,⟨ws0,h2.mono fun _ _ h=>⟨h.1,h.2.keep ha.size hD⟩,ownsRow_keep h3 fun g hg=>ha.k g (World.ownsRow.lt h3 g hg).2 (ownsRow_ne h3 h.ht (by decide) g hg)⟩,
  ⟨hs',h4.mono fun _ _ h=>h.keep ha.size hD,ownsRow_keep h5 fun g hg=>ha.k g (World.ownsRow.lt h5 g hg).2 (ownsRow_ne h5 h.ht (by decide) g hg)⟩,ho⟩
 ·have h8:=h.by8
  have hlt:=h8.lt
  have hne:=own_ne_at h.ht h8 (by decide)
  unfold At at *
  rw [ha.k bb hlt hne];exact h8
 ·rcases ha.b with e | ⟨g,e,hg⟩
  ·rw [e] at hk;exact ⟨.inl (h.ot k hk).1,(h.ot k hk).2⟩
  ·rw [e] at hk
   have:g=k:=by simpa using hk
   exact ⟨.inr (by omega),by omega⟩
 ·obtain ⟨k1,k2,k3,k4,k5,k6,k7⟩:=h.dF k hk
  refine ⟨.inl k1,Nat.lt_of_lt_of_le k2 ha.size,k3,k4,k5,k6,?_⟩
  rcases ha.b with e | ⟨g,e,hg⟩
  ·rw [e];exact k7
  ·rw [e];intro e2
   have:g=k:=by simpa using e2
   omega
end
end Sha
end Go.Proofs.YtlhnegbjoncieaaGreatDoor
