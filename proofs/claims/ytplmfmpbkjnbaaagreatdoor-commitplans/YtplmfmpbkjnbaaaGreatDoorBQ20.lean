/- My own texts, merged. -/
import Derived.Test.YtplmfmpbkjnbaaaGreatDoorBQ00
import Derived.Test.YtplmfmpbkjnbaaaGreatDoorBQ16
import Derived.Maps.AppendAt
import Derived.OwnWalk
import Derived.Test.YtplmfmpbkjnbaaaGreatDoorBQ14
import Derived.Test.YtplmfmpbkjnbaaaGreatDoorBQ08
import Derived.Test.YtplmfmpbkjnbaaaGreatDoorBQ02
import Derived.Test.YtplmfmpbkjnbaaaGreatDoorBQ13
import Derived.Laws.CopyRow
import Derived.Laws.IdiomCopy
import Derived.Test.YtplmfmpbkjnbaaaGreatDoorBQ15
import Derived.BigQuiet
import Derived.Test.YtplmfmpbkjnbaaaGreatDoorBQ12
import Derived.Great.Walk
import Derived.Test.YtplmfmpbkjnbaaaGreatDoorBQ07
import Derived.Test.YtplmfmpbkjnbaaaGreatDoorBQ09
namespace Go.Proofs.YtplmfmpbkjnbaaaGreatDoor
namespace Sha
theorem adds_comm (l m:List (BitVec 32)):adds l m=adds m l:=by
 unfold adds
 exact List.zipWith_comm_of_comm (fun x y=>BitVec.add_comm x y)
theorem adds_assoc:∀ l m k:List (BitVec 32),adds (adds l m) k=adds l (adds m k)
 | [],_,_=>by simp [adds]
 | _::_,[],_=>by simp [adds]
 | _::_,_::_,[]=>by simp [adds]
 | x::l,y::m,z::k=>by
  have ih:=adds_assoc l m k
  unfold adds at ih ⊢
  simp only [List.zipWith_cons_cons,ih,BitVec.add_assoc]
theorem addB_comp (H:List (BitVec 32)) (T:Lb8):adds (addB H T) IVl=comp (adds H IVl) T:=by
 unfold addB comp
 rw [adds_comm IVl H,adds_comm H,adds_assoc]
def comps (s:List (BitVec 32)) (T:Lb8):Nat→List (BitVec 32)
 | 0=>s
 | i+1=>comp (comps s T i) ((T.drop (64*i)).take 64)
theorem lay_all (T c:Lb8) (h:T.length=c.length):lay T 0 c=c:=by simp [lay,h]
theorem feeds_comps (T:Lb8) (m:Nat) (hT:T.length=64*m):∀ i,i≤m →
 (feeds fed0 (T.take (64*i))).at'=0∧(feeds fed0 (T.take (64*i))).T.length=64∧adds (feeds fed0 (T.take (64*i))).H IVl=comps IVl T i
 | 0,_=>by
  rw [Nat.mul_zero,List.take_zero]
  exact ⟨rfl,by decide,by show adds (List.replicate 8 0) IVl=IVl;decide⟩
 | i+1,hi=>by
  obtain ⟨h0,h1,h2⟩:=feeds_comps T m hT i (by omega)
  have hc:((T.drop (64*i)).take 64).length=64:=by rw [List.length_take,List.length_drop];omega
  have e:T.take (64*(i+1))=T.take (64*i)++(T.drop (64*i)).take 64:=by rw [Nat.mul_add,List.take_add]
  rw [e,feeds_append,feeds_full _ _ h1 (by rw [h0];decide) (by rw [h0,hc])]
  refine ⟨rfl,by simp [zs64],?_⟩
  rw [h0,lay_all _ _ (by rw [h1,hc]),addB_comp,h2];rfl
theorem padded_mod (n:Nat):∃ m,n+(padBytes n).length=64*m:=by
 refine ⟨(n+(padBytes n).length) / 64,?_⟩
 rw [padBytes_length]
 unfold padQ
 split <;> omega
theorem digest_comps (b:Lb8) (m:Nat) (hm:(b++padBytes b.length).length=64*m):dRow (comps IVl (b++padBytes b.length) m) 8=digestOf b:=by
 have h:=(feeds_comps _ m hm m (Nat.le_refl m)).2.2
 rw [List.take_of_length_le (by omega),feeds_append] at h
 rw [←h];rfl
theorem word_sum (b0 b1 b2 b3:BitVec 8):(b0.toNat:Int)*16777216+(b1.toNat:Int)*65536+(b2.toNat:Int)*256+(b3.toNat:Int) =
 V (b0.setWidth 32 <<< 24 ||| b1.setWidth 32 <<< 16 ||| b2.setWidth 32 <<< 8 ||| b3.setWidth 32):=by
 have l0:=b0.isLt
 have l1:=b1.isLt
 have l2:=b2.isLt
 have l3:=b3.isLt
 have e (b:BitVec 8) (k:Nat) (hk:k≤24):(b.setWidth 32 <<< k).toNat=b.toNat <<< k:=by
  have lb:=b.isLt
  have hp:2 ^ k≤2 ^ 24:=Nat.pow_le_pow_right (by decide) hk
  rw [BitVec.toNat_shiftLeft,BitVec.toNat_setWidth,Nat.mod_eq_of_lt (Nat.lt_of_lt_of_le lb (by decide)),Nat.mod_eq_of_lt]
  rw [Nat.shiftLeft_eq]
  exact Nat.lt_of_lt_of_le (Nat.mul_lt_mul_of_lt_of_le lb hp (Nat.two_pow_pos _)) (by decide)
 have e3:(b3.setWidth 32).toNat=b3.toNat:=by rw [BitVec.toNat_setWidth];omega
 have h2:b2.toNat <<< 8 ||| b3.toNat=b2.toNat*256+b3.toNat:=by rw [←Nat.shiftLeft_add_eq_or_of_lt (by omega),Nat.shiftLeft_eq]
 have h1:b1.toNat <<< 16 ||| (b2.toNat*256+b3.toNat)=b1.toNat*65536+(b2.toNat*256+b3.toNat):=by rw [←Nat.shiftLeft_add_eq_or_of_lt (by omega),Nat.shiftLeft_eq]
 have h0:b0.toNat <<< 24 ||| (b1.toNat*65536+(b2.toNat*256+b3.toNat))=b0.toNat*16777216+(b1.toNat*65536+(b2.toNat*256+b3.toNat)):=by rw [←Nat.shiftLeft_add_eq_or_of_lt (by omega),Nat.shiftLeft_eq]
 unfold V
 rw [BitVec.toNat_or,BitVec.toNat_or,BitVec.toNat_or,e _ _ (by decide),e _ _ (by decide),e _ _ (by decide),e3,Nat.or_assoc,Nat.or_assoc,h2,h1,h0]
 omega
def sofar (b:Lb8) (t:Nat):List (BitVec 32):=if t≤16 then wds b t else ext (wds b 16) (t - 16)
theorem sofar_length (b:Lb8) (t:Nat):(sofar b t).length=t:=by
 unfold sofar
 split
 ·rw [wds_length]
 ·rw [ext_length,wds_length];omega
theorem sofar_word (b:Lb8) (t:Nat) (h:t < 16):sofar b (t+1)=sofar b t++[word b t]:=by
 unfold sofar
 rw [if_pos (by omega),if_pos (by omega)];rfl
theorem sofar_more (b:Lb8) (t:Nat) (h:16≤t):sofar b (t+1)=sofar b t++[nextW (sofar b t)]:=by
 have e:sofar b t=ext (wds b 16) (t - 16):=by
  unfold sofar
  split
  ·have:t=16:=by omega
   subst this;rfl
  ·rfl
 rw [e]
 unfold sofar
 rw [if_neg (by omega),show t+1 - 16=(t - 16)+1 by omega];rfl
theorem sofar_all (b:Lb8):sofar b 64=sched b:=rfl
end Sha
end Go.Proofs.YtplmfmpbkjnbaaaGreatDoor
namespace Go.Proofs.YtplmfmpbkjnbaaaGreatDoor
namespace Mem
open Go.RowKit
section
end
end Mem
end Go.Proofs.YtplmfmpbkjnbaaaGreatDoor
namespace Go.Proofs.YtplmfmpbkjnbaaaGreatDoor
namespace Sha
open Go.RowKit Mem
section
variable {P:Program}
theorem s0_val (x:BitVec 32):bits .xor .u32 (bits .xor .u32 (V (x.rotateRight 7)) (V (x.rotateRight 18))) ((V x).tdiv 8 % 4294967296)=V (s0 x):=by
 have h:(V x).tdiv 8 % (4294967296:Int)=V (x >>> 3):=by
  have:=V_lo (x >>> 3);have:=V_hi (x >>> 3)
  rw [Int.tdiv_eq_ediv_of_nonneg (V_lo x),shr3];omega
 rw [h,r_xor,r_xor];rfl
theorem s1_val (x:BitVec 32):bits .xor .u32 (bits .xor .u32 (V (x.rotateRight 17)) (V (x.rotateRight 19))) ((V x).tdiv 1024 % 4294967296)=V (s1 x):=by
 have h:(V x).tdiv 1024 % (4294967296:Int)=V (x >>> 10):=by
  have:=V_lo (x >>> 10);have:=V_hi (x >>> 10)
  rw [Int.tdiv_eq_ediv_of_nonneg (V_lo x),shr10];omega
 rw [h,r_xor,r_xor];rfl
end
end Sha
end Go.Proofs.YtplmfmpbkjnbaaaGreatDoor
namespace Go.Proofs.YtplmfmpbkjnbaaaGreatDoor
namespace Sha
open Go.RowKit Mem
theorem sls_lit1 {w:World} {v:Value} {l:Lb8} (h:Sl w v l):Sls (w.alloc (.cells #[v] 63)) (.slice (some ⟨w.heap.size,0,none⟩) 1 1) [l]:=by
 have hn:=at_new w #[v] 63
 refine ⟨_,_,rfl,Nat.le_refl _,fun _=>⟨_,_,rfl,hn.lt,fun i hi=>?_⟩⟩
 match i,hi with
 | 0,_=>exact ⟨v,by rw [hn.cell];rfl,h.below ((Below.refl _ _).alloc (Nat.le_refl _) _)⟩
def dgOf (l:Lb8):Array Value:=(u8s (digestOf l)).toArray
structure Ok6 (m:Nat) (s:St6):Prop where
 n1:1≤s.n
 n2:s.n≤1024
 b:s.b.length=s.n*256
 wf:WfP s.n s.w
 sh:∀ k,k < s.sh.length→(s.sh.getD k []).length=s.n*256
 w:s.w.length≤m
 t:s.t.length≤m
 s16:s.sh.length≤16
theorem Ok6.mono {m m':Nat} {s:St6} (h:Ok6 m s) (hm:m≤m'):Ok6 m' s:=⟨h.n1,h.n2,h.b,h.wf,h.sh,Nat.le_trans h.w hm,Nat.le_trans h.t hm,h.s16⟩
def stRead (s:St6) (n:Nat):Lb8:=readTo n (blkOf s.b n) s.w s.w.length
abbrev StAcc:=Foot→Nat→World→St6→Prop
structure Step6 where
 k:BitVec 8
 n:Int
 a:Int
 x:BitVec 8
 q:Nat
deriving Inhabited
def stepC6 (s:Step6):Array Value:=#[.int .u8 (B8 s.k),.int .i64 s.n,.int .i64 s.a,.int .u8 (B8 s.x),.int .u64 (s.q:Int)]
def SlS6 (w:World) (v:Value) (l:List Step6):Prop:=
 ∃ a cap,v=.slice a l.length cap∧l.length≤cap∧(l≠[]→∃ bb oo,a=some ⟨bb,oo,none⟩∧bb < w.heap.size∧∀ i,i < l.length→∀ j,j < 5→w.cell? ⟨bb,oo+(5*i+j),none⟩=(stepC6 (l.getD i default))[j]?)
theorem SlS6.below {w wr:World} {v:Value} {l:List Step6} (h:SlS6 w v l) (hb:Below w.heap.size w wr):SlS6 wr v l:=by
 obtain ⟨a,cap,e,hc,hr⟩:=h
 refine ⟨a,cap,e,hc,fun hne=>?_⟩
 obtain ⟨bb,oo,ea,hlt,hcell⟩:=hr hne
 exact ⟨bb,oo,ea,Nat.lt_of_lt_of_le hlt hb.size,fun i hi j hj=>by rw [hb.cell (p:=⟨bb,oo+(5*i+j),none⟩) hlt];exact hcell i hi j hj⟩
theorem SlS6.take {w:World} {a:Option Addr} {n cap:Nat} {l:List Step6} (h:SlS6 w (.slice a n cap) l) (m:Nat) (hm:m≤l.length):SlS6 w (.slice a m cap) (l.take m):=by
 obtain ⟨a',cap',e,hc,hr⟩:=h
 injection e with e1 _ e3
 subst e1;subst e3
 have hl:(l.take m).length=m:=by rw [List.length_take];omega
 refine ⟨a,cap,by rw [hl],by rw [hl];omega,fun hne=>?_⟩
 obtain ⟨bb,oo,ea,hlt,hcell⟩:=hr (fun h0=>hne (by rw [h0];simp))
 refine ⟨bb,oo,ea,hlt,fun i hi j hj=>?_⟩
 rw [hl] at hi
 rw [hcell i (by omega) j hj]
 simp [List.getD_eq_getElem?_getD,hi]
end Sha
end Go.Proofs.YtplmfmpbkjnbaaaGreatDoor
namespace Go.Proofs.YtplmfmpbkjnbaaaGreatDoor
namespace Sha
open Go.RowKit Mem
def pBl (bb n:Nat):Value:=.slice (some ⟨bb,0,none⟩) (n*256) (n*256)
def pRow (bb n:Nat) (vw vs vt:Value):Array Value:=#[pBl bb n,vw,vs,vt]
structure PM (G D:Foot) (br bb:Nat) (w:World) (s:St6) (vw vs vt:Value):Prop where
 fb:G bb
 ne:bb≠br
 by8:At w bb (u8s s.b).toArray 5
 len:s.b.length=s.n*256
 ow:∀ k,vw.ownBlock=some k→G k∧k≠br
 os:∀ k,vs.ownBlock=some k→G k∧k≠br
 ot:∀ k,vt.ownBlock=some k→G k∧k≠br
 dF:∀ k,D k→G k∧k < w.heap.size∧k≠br∧k≠bb∧vw.ownBlock≠some k∧vs.ownBlock≠some k∧vt.ownBlock≠some k
 hw:∃ ws:List (Nat × Value),Each2 (fun p q=>p.1=q.1∧SlB D w p.2 q.2) ws s.w∧w.ownsRow 0 193 2 vw s.w.length (putC ws)
 hs:∃ hs:List Value,Each2 (fun p q=>SlB D w p q) hs s.sh∧w.ownsRow 0 63 1 vs s.sh.length hs
 ht:w.ownsRow 0 3 1 vt s.t.length (i64s s.t)
section
variable {F G D:Foot} {br bb:Nat} {w w' w1:World} {s:St6} {vw vs vt vw' vs' vt':Value}
theorem PM.keep (h:PM G D br bb w s vw vs vt) (hs:w.heap.size≤w'.heap.size) (hk:∀ k,G k→k≠br→k < w.heap.size→w'.heap[k]?=w.heap[k]?):PM G D br bb w' s vw vs vt:=by
 have hD:∀ k,D k→k < w.heap.size→w'.heap[k]?=w.heap[k]?:=fun k hd hlt=>hk k (h.dF k hd).1 (h.dF k hd).2.2.1 hlt
 obtain ⟨ws,h1,h2⟩:=h.hw
 obtain ⟨hs',h3,h4⟩:=h.hs
 refine ⟨h.fb,h.ne,?_,h.len,h.ow,h.os,h.ot,fun k hd=>⟨(h.dF k hd).1,Nat.lt_of_lt_of_le (h.dF k hd).2.1 hs,(h.dF k hd).2.2⟩,⟨ws,h1.mono fun _ _ h=>⟨h.1,h.2.keep hs hD⟩,ownsRow_keep h2 fun g hg=>hk g (h.ow g hg).1 (h.ow g hg).2 (World.ownsRow.lt h2 g hg).2⟩,⟨hs',h3.mono fun _ _ h=>h.keep hs hD,ownsRow_keep h4 fun g hg=>hk g (h.os g hg).1 (h.os g hg).2 (World.ownsRow.lt h4 g hg).2⟩,ownsRow_keep h.ht fun g hg=>hk g (h.ot g hg).1 (h.ot g hg).2 (World.ownsRow.lt h.ht g hg).2⟩
 have:=h.by8.lt
 have h8:=h.by8
 unfold At at *
 rw [hk bb h.fb h.ne this];exact h8
theorem PM.mono {H:Foot} (h:PM G D br bb w s vw vs vt) (hs:∀ k,G k→k < w.heap.size→H k):PM H D br bb w s vw vs vt:=by
 obtain ⟨ws,h1,h2⟩:=h.hw
 obtain ⟨hs',h3,h4⟩:=h.hs
 exact ⟨hs _ h.fb h.by8.lt,h.ne,h.by8,h.len,fun k hk=>⟨hs k (h.ow k hk).1 (World.ownsRow.lt h2 k hk).2,(h.ow k hk).2⟩,fun k hk=>⟨hs k (h.os k hk).1 (World.ownsRow.lt h4 k hk).2,(h.os k hk).2⟩,
  fun k hk=>⟨hs k (h.ot k hk).1 (World.ownsRow.lt h.ht k hk).2,(h.ot k hk).2⟩,fun k hk=>⟨hs k (h.dF k hk).1 (h.dF k hk).2.1,(h.dF k hk).2⟩,⟨ws,h1,h2⟩,⟨hs',h3,h4⟩,h.ht⟩
structure PV (F D:Foot) (br bb:Nat) (w:World) (s:St6) (vw vs vt:Value):Prop where
 box:F br
 lt:∀ k,F k→k < w.heap.size
 row:At w br (pRow bb s.n vw vs vt) 164
 m:PM F D br bb w s vw vs vt
def PSt (F:Foot) (br:Nat) (w:World) (s:St6):Prop:=∃ D bb vw vs vt,PV F D br bb w s vw vs vt
theorem PV.blt (h:PV F D br bb w s vw vs vt):br < w.heap.size:=h.lt br h.box
theorem PV.keep (h:PV F D br bb w s vw vs vt) (hs:w.heap.size≤w'.heap.size) (hk:∀ k,F k→k < w.heap.size→w'.heap[k]?=w.heap[k]?):PV F D br bb w' s vw vs vt:=by
 refine ⟨h.box,fun k hF=>Nat.lt_of_lt_of_le (h.lt k hF) hs,?_,h.m.keep hs fun k hF _ hlt=>hk k hF hlt⟩
 have h8:=h.row
 unfold At at *
 rw [hk br h.box h.blt];exact h8
theorem PV.below (h:PV F D br bb w s vw vs vt) (hb:Below w.heap.size w w'):PV F D br bb w' s vw vs vt:=h.keep hb.size fun k _ hlt=>hb.block k hlt
theorem PV.ps (h:PV F D br bb w s vw vs vt):PSt F br w s:=⟨D,bb,vw,vs,vt,h⟩
theorem pm_bytes {b:Lb8} (h:PM G D br bb w s vw vs vt) (hl:b.length=s.n*256) (hA:At w' bb (u8s b).toArray 5) (hs:w.heap.size≤w'.heap.size) (ho:∀ k,k < w.heap.size→k≠bb→w'.heap[k]?=w.heap[k]?):PM G D br bb w' { s with b:=b } vw vs vt:=by
 have hD:∀ k,D k→k < w.heap.size→w'.heap[k]?=w.heap[k]?:=fun k hd hlt=>ho k hlt (h.dF k hd).2.2.2.1
 obtain ⟨ws,h1,h2⟩:=h.hw
 obtain ⟨hs',h3,h4⟩:=h.hs
 exact ⟨h.fb,h.ne,hA,hl,h.ow,h.os,h.ot,fun k hd=>⟨(h.dF k hd).1,Nat.lt_of_lt_of_le (h.dF k hd).2.1 hs,(h.dF k hd).2.2⟩,
  ⟨ws,h1.mono fun _ _ h=>⟨h.1,h.2.keep hs hD⟩,ownsRow_keep h2 fun g hg=>ho g (World.ownsRow.lt h2 g hg).2 fun e=>own_ne_at h2 h.by8 (by decide) (e ▸ hg)⟩,
  ⟨hs',h3.mono fun _ _ h=>h.keep hs hD,ownsRow_keep h4 fun g hg=>ho g (World.ownsRow.lt h4 g hg).2 fun e=>own_ne_at h4 h.by8 (by decide) (e ▸ hg)⟩,
  ownsRow_keep h.ht fun g hg=>ho g (World.ownsRow.lt h.ht g hg).2 fun e=>own_ne_at h.ht h.by8 (by decide) (e ▸ hg)⟩
theorem pv_bytes {b:Lb8} (h:PV F D br bb w s vw vs vt) (hl:b.length=s.n*256) (hA:At w' bb (u8s b).toArray 5) (hs:w.heap.size≤w'.heap.size) (ho:∀ k,k < w.heap.size→k≠bb→w'.heap[k]?=w.heap[k]?):PV F D br bb w' { s with b:=b } vw vs vt:=by
 refine ⟨h.box,fun k hF=>Nat.lt_of_lt_of_le (h.lt k hF) hs,?_,pm_bytes h.m hl hA hs ho⟩
 have h8:=h.row
 have h7:=h.blt
 unfold At at *
 rw [ho br h7 fun e=>h.m.ne e.symm];exact h8
end
end Sha
end Go.Proofs.YtplmfmpbkjnbaaaGreatDoor
namespace Go.Proofs.YtplmfmpbkjnbaaaGreatDoor
namespace Sha
open Go.RowKit Mem
structure PInv9 (w:World) (br bx:Nat) (Z C:Array Value) (b:Lb8) (e:Nat) (W:World):Prop where
 r:RPk W br b e
 ar:At W w.heap.size Z 46
 ag:At W bx C 46
 l:Below w.heap.size w W
section
variable {w W W':World} {br bx:Nat} {Z C C':Array Value} {b b':Lb8} {e e':Nat}
theorem PInv9.call (h:PInv9 w br bx Z C b e W) (h1:w.heap.size < br) (h2:br < bx) (hp:PkEnd RPk W br b' e' W'):PInv9 w br bx Z C b' e' W':=
 ⟨hp.r,h.ar.but hp.o (by omega),h.ag.but hp.o (by omega),hp.k _ _ h.l (by omega)⟩
theorem PInv9.store (h:PInv9 w br bx Z C b e W) (h1:w.heap.size < br) (h2:br < bx) (ha:At W' bx C' 46) (ho:∀ k,k≠bx→W'.heap[k]?=W.heap[k]?) (hk:∀ B x,Below B x W→B≤bx→Below B x W'):PInv9 w br bx Z C' b e W':=by
 have hs:W.heap.size≤W'.heap.size:=(hk _ _ (Below.refl bx W) (Nat.le_refl _)).size
 have hb:But bx W W':=⟨hs,fun k _ hne=>ho k hne⟩
 exact ⟨h.r.above hb h2,h.ar.but hb (by omega),ha,hk _ _ h.l (by omega)⟩
theorem PInv9.drew (h:PInv9 w br bx Z C b e W):PInv9 w br bx Z C b e W.drew:=
 ⟨h.r.below (Below.refl _ _).drew,h.ar.below (Below.refl _ _).drew h.ar.lt,h.ag.below (Below.refl _ _).drew h.ag.lt,h.l.drew⟩
end
end Sha
end Go.Proofs.YtplmfmpbkjnbaaaGreatDoor
namespace Go.Proofs.YtplmfmpbkjnbaaaGreatDoor
namespace Sha
open Go.RowKit Mem
set_option maxRecDepth 100000
theorem isMany_any (z:Int) (w:World):Calls Tryz.prog 129 #[.int .i64 z] w fun e w'=>e=.returned (.bool (decide (1≤z∧z≤6)))∧w'=w:=by
 by_cases h1:1≤z
 ·by_cases h6:z≤6
  ·rw [decide_eq_true ⟨h1,h6⟩]
   go_enter Tryz.func129,Tryz.ntmps129
   go_wp2_with fail
   go_ret
   exact ⟨rfl,rfl⟩
  ·rw [decide_eq_false (fun h=>h6 h.2)]
   go_enter Tryz.func129,Tryz.ntmps129
   go_wp2_with fail
   go_ret
   exact ⟨rfl,rfl⟩
 ·rw [decide_eq_false (fun h=>h1 h.1)]
  go_enter Tryz.func129,Tryz.ntmps129
  go_wp2_with fail
  go_ret
  exact ⟨rfl,rfl⟩
structure TInv (w:World) (br bt:Nat) (Z C:Array Value) (b:Lb8) (e:Nat) (W:World):Prop where
 r:RPk W br b e
 ar:At W w.heap.size Z 242
 ag:At W bt C 242
 l:Below w.heap.size w W
 o1:w.heap.size < br
 o2:br < bt
section
variable {w W W':World} {br bt:Nat} {Z C C':Array Value} {b b':Lb8} {e e':Nat}
theorem TInv.call (h:TInv w br bt Z C b e W) (hp:PkEnd RPk W br b' e' W'):TInv w br bt Z C b' e' W':=
 ⟨hp.r,h.ar.but hp.o (by have:=h.o1;omega),h.ag.but hp.o (by have:=h.o2;omega),hp.k _ _ h.l (by have:=h.o1;omega),h.o1,h.o2⟩
theorem TInv.below (h:TInv w br bt Z C b e W) (hb:Below W.heap.size W W'):TInv w br bt Z C b e W':=
 ⟨h.r.below hb,h.ar.below hb h.ar.lt,h.ag.below hb h.ag.lt,h.l.trans (hb.mono h.l.size),h.o1,h.o2⟩
theorem TInv.row (h:TInv w br bt Z C b e W) (D:Array Value):TInv w br bt Z D b e (W.setRow bt D):=by
 have hs:But bt W (W.setRow bt D):=⟨by simp,fun k _ hne=>setRow_other W bt k D hne⟩
 exact ⟨h.r.above hs h.o2,h.ar.but hs (by have:=h.o1;have:=h.o2;omega),h.ag.row D,below_row h.l (by have:=h.o1;have:=h.o2;omega) D,h.o1,h.o2⟩
end
end Sha
end Go.Proofs.YtplmfmpbkjnbaaaGreatDoor
