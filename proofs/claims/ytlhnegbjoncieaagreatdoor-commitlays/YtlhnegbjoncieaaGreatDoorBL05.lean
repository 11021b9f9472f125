/- My own texts, merged. -/
import Derived.Test.YtlhnegbjoncieaaGreatDoorBL00
import Derived.Test.YtlhnegbjoncieaaGreatDoorBL01
namespace Go.Proofs.YtlhnegbjoncieaaGreatDoor
namespace Mem
open Go.RowKit
def eqParts (d:Nat) (xs ys:Array Value):List (Bool × TypeId × Nat)→Sem Bool
 | []=>pure true
 | (true,t,o)::l=>do
  let a ←part t xs o
  let b ←part t ys o
  let r ←Op.equalIn d t a b
  if (!r)=true then pure false else eqParts d xs ys l
 | (false,_,_)::l=>eqParts d xs ys l
theorem eqFields_parts (d : Nat) (xs ys : Array Value) : ∀ fs : List Field, Op.eqFields d xs ys fs = eqParts d xs ys (fs.map fun f => (decide (f.name ≠ "_"), f.type, f.offset))
 | []=>rfl
 | f::fs=>by
  rw [List.map_cons,Op.eqFields,eqFields_parts d xs ys fs]
  by_cases h : f.name ≠ "_"
  ·rw [if_pos h,decide_eq_true h,eqParts]
  ·rw [if_neg h,decide_eq_false h,eqParts]
theorem eqParts_cons {P:Program} {w:World} {d:Nat} {xs ys:Array Value} {t:TypeId} {o:Nat} {l:List (Bool × TypeId × Nat)} {a b:Value} {r s:Bool} (ha:(part t xs o).run P w=.ok a w) (hb:(part t ys o).run P w=.ok b w) (hr:(Op.equalIn d t a b).run P w=.ok r w) (hl:(eqParts d xs ys l).run P w=.ok s w) :
 (eqParts d xs ys ((true,t,o)::l)).run P w=.ok (r && s) w:=by
 rw [eqParts,Sem.run_bind,ha,Result.andThen_ok,Sem.run_bind,hb,Result.andThen_ok,Sem.run_bind,hr,Result.andThen_ok]
 cases r
 ·simp
 ·simpa using hl
theorem run_part_int {P:Program} (w:World) (t:TypeId) (k:IntKind) (hu:P.underlying t=some (.int k)) (xs:Array Value) (o:Nat) (v:Value) (h:xs[o]?=some v):(part t xs o).run P w=.ok v w:=by
 simp [part,isAgg,run_underlying hu,h]
theorem run_part_arr {P:Program} (w:World) (t e:TypeId) (n m:Nat) (hu:P.underlying t=some (.array n e)) (hs:(P.info? t).map (·.size)=some m) (xs:Array Value) (o:Nat) (R:Array Value) (h:xs.extract o (o+m)=R):(part t xs o).run P w=.ok (.agg R) w:=by
 cases hq:P.info? t with
 | none=>simp [hq] at hs
 | some q=>
  have hm:q.size=m:=by simpa [hq] using hs
  simp [part,isAgg,run_underlying hu,sizeOf,typeInfo,hq,hm,h]
end Mem
end Go.Proofs.YtlhnegbjoncieaaGreatDoor
namespace Go.Proofs.YtlhnegbjoncieaaGreatDoor
namespace Sha
open Go.RowKit
def cnt (m:Nat):Nat:=(m+5) / 6
def lvn (p:Nat):Nat→Nat
 | 0=>p
 | 1=>cnt p
 | 2=>cnt (cnt p)
 | _=>cnt (cnt (cnt p))
def stn (p:Nat):Nat→Nat
 | 0=>0
 | 1=>p
 | 2=>p+cnt p
 | 3=>p+cnt p+cnt (cnt p)
 | _=>p+cnt p+cnt (cnt p)+cnt (cnt (cnt p))
def topn (p:Nat):Nat:=if p≤6 then 1 else if p≤36 then 2 else 3
def itn (p:Nat):Nat:=stn p (topn p+1)
def lev (p i:Nat):Nat:=if i < p then 0 else if i < stn p 2 then 1 else if i < stn p 3 then 2 else 3
def fst (p i:Nat):Nat:=stn p (lev p i - 1)+6*(i - stn p (lev p i))
def many (p i:Nat):Nat:=min 6 (stn p (lev p i) - fst p i)
def parN (p i:Nat):Nat × Nat:=(stn p (lev p i+1)+(i - stn p (lev p i)) / 6,(i - stn p (lev p i)) % 6)
def fstZ (p i:Nat):Int:=if i < p then -1 else (fst p i:Int)
def fstL (p n:Nat):List Int:=(List.range n).map (fstZ p)
theorem cnt_le (m:Nat):m≤6*cnt m∧6*cnt m≤m+5:=by unfold cnt;omega
structure Lv (p a b c:Nat):Prop where
 p0:1≤p
 p1:p≤216
 ea:a=cnt p
 eb:b=cnt a
 ec:c=cnt b
theorem lv_of (p:Nat) (h0:1≤p) (h1:p≤216):Lv p (cnt p) (cnt (cnt p)) (cnt (cnt (cnt p))):=⟨h0,h1,rfl,rfl,rfl⟩
theorem Lv.nums {p a b c:Nat} (h:Lv p a b c):p≤6*a∧6*a≤p+5∧a≤6*b∧6*b≤a+5∧b≤6*c∧6*c≤b+5:=by
 obtain ⟨_,_,rfl,rfl,rfl⟩:=h
 have h1:=cnt_le p;have h2:=cnt_le (cnt p);have h3:=cnt_le (cnt (cnt p))
 omega
theorem stn_lvn (p k:Nat) (hk:k≤3):stn p (k+1)=stn p k+lvn p k:=by
 match k,hk with
 | 0,_=>simp [stn,lvn]
 | 1,_=>simp [stn,lvn]
 | 2,_=>simp [stn,lvn]
 | 3,_=>simp [stn,lvn]
theorem lvn_cnt (p k:Nat) (hk:k≤2):lvn p (k+1)=cnt (lvn p k):=by
 match k,hk with
 | 0,_=>rfl
 | 1,_=>rfl
 | 2,_=>rfl
theorem top_iff (p k:Nat) (h0:1≤p) (h1:p≤216) (hk:k≤3):(k=0∨1 < lvn p k) ↔ k+1≤topn p:=by
 have h:=(lv_of p h0 h1).nums
 unfold topn
 match k,hk with
 | 0,_=>simp;split <;> (try split) <;> omega
 | 1,_=>simp only [lvn];split <;> (try split) <;> omega
 | 2,_=>simp only [lvn];split <;> (try split) <;> omega
 | 3,_=>simp only [lvn];split <;> (try split) <;> omega
theorem top_le (p:Nat):1≤topn p∧topn p≤3:=by unfold topn;split <;> (try split) <;> omega
theorem lev_at (p k j:Nat) (hk:k≤3) (hj:j < lvn p k):lev p (stn p k+j)=k:=by
 unfold lev
 match k,hk with
 | 0,_=>simp only [stn,lvn] at hj ⊢;rw [if_pos (by omega)]
 | 1,_=>simp only [stn,lvn] at hj ⊢;rw [if_neg (by omega),if_pos (by omega)]
 | 2,_=>simp only [stn,lvn] at hj ⊢;rw [if_neg (by omega),if_neg (by omega),if_pos (by omega)]
 | 3,_=>simp only [stn,lvn] at hj ⊢;rw [if_neg (by omega),if_neg (by omega),if_neg (by omega)]
theorem lev_le (p i:Nat):lev p i≤3:=by unfold lev;split <;> (try split) <;> (try split) <;> omega
theorem lev_lo (p i:Nat):stn p (lev p i)≤i:=by
 unfold lev
 split
 ·exact Nat.zero_le _
 ·split
  ·simp only [stn];omega
  ·split
   ·simp only [stn] at *;omega
   ·simp only [stn] at *;omega
theorem lev_hi (p i:Nat) (h:i < stn p 4):i < stn p (lev p i+1):=by
 unfold lev
 split
 ·simpa [stn] using ‹i < p›
 ·split
  ·assumption
  ·split
   ·assumption
   ·exact h
theorem lev_eq (p i k:Nat) (hk:k≤3) (h0:stn p k≤i) (h1:i < stn p (k+1)):lev p i=k:=by
 have h:=lev_at p k (i - stn p k) hk (by rw [stn_lvn p k hk] at h1;omega)
 rwa [Nat.add_sub_cancel' h0] at h
theorem itn_le (p:Nat):itn p≤stn p 4:=by
 unfold itn topn
 split
 ·simp only [stn];omega
 ·split
  ·simp only [stn];omega
  ·exact Nat.le_refl _
theorem itn_big (p:Nat) (h0:1≤p) (h1:p≤216):p < itn p∧itn p≤259:=by
 have h:=(lv_of p h0 h1).nums
 unfold itn topn
 split
 ·simp only [stn];omega
 ·split
  ·simp only [stn];omega
  ·simp only [stn];omega
theorem root_one (p:Nat) (h0:1≤p) (h1:p≤216):lvn p (topn p)=1∧itn p=stn p (topn p)+1:=by
 have h:=(lv_of p h0 h1).nums
 unfold itn topn
 split
 ·simp only [stn,lvn];omega
 ·split
  ·simp only [stn,lvn];omega
  ·simp only [stn,lvn];omega
theorem kids_cond (p i j:Nat) (_h0:1≤p) (_h1:p≤216) (hi:p≤i) (hit:i < itn p):(j < 6∧fst p i+j < i∧lev p (fst p i+j)+1=lev p i) ↔ j < many p i:=by
 have h4:=itn_le p
 have hlo:=lev_lo p i
 have hhi:=lev_hi p i (by omega)
 have hl3:=lev_le p i
 have hl1:1≤lev p i:=by
  rcases Nat.eq_zero_or_pos (lev p i) with e | e
  ·rw [e] at hhi;simp only [stn] at hhi;omega
  ·exact e
 unfold many
 obtain ⟨k,hk⟩:∃ k,lev p i=k+1:=⟨lev p i - 1,by omega⟩
 have hf:fst p i=stn p k+6*(i - stn p (k+1)):=by unfold fst;rw [hk];rfl
 rw [hk] at hlo hhi hl3 ⊢
 constructor
 ·rintro ⟨a,b,c⟩
  have hc:lev p (fst p i+j)=k:=by omega
  have hh:=lev_hi p (fst p i+j) (by omega)
  rw [hc] at hh
  omega
 ·intro a
  have a1:fst p i+j < stn p (k+1):=by omega
  have hc:=lev_eq p (fst p i+j) k (by omega) (by omega) a1
  exact ⟨by omega,by omega,by omega⟩
theorem many_le (p i:Nat):many p i≤6:=by unfold many;omega
theorem kid_iff (p q i j:Nat) (h0:1≤p) (h1:p≤216) (hq:p≤q) (hqt:q < itn p):(j < many p q∧fst p q+j=i) ↔ (i+1 < itn p∧parN p i=(q,j)):=by
 have h4:=itn_le p
 have hn:=(lv_of p h0 h1).nums
 have hlo:=lev_lo p q
 have hhi:=lev_hi p q (by omega)
 have hl3:=lev_le p q
 have hl1:1≤lev p q:=by
  rcases Nat.eq_zero_or_pos (lev p q) with e | e
  ·rw [e] at hhi;simp only [stn] at hhi;omega
  ·exact e
 obtain ⟨k,hk⟩:∃ k,lev p q=k+1:=⟨lev p q - 1,by omega⟩
 have hf:fst p q=stn p k+6*(q - stn p (k+1)):=by unfold fst;rw [hk];rfl
 have hs1:=stn_lvn p k (by omega)
 have hs2:=stn_lvn p (k+1) (by omega)
 have hc:=lvn_cnt p k (by omega)
 have hcl:=cnt_le (lvn p k)
 unfold many
 rw [hk] at hlo hhi hl3 ⊢
 constructor
 ·rintro ⟨a,rfl⟩
  have a1:fst p q+j < stn p (k+1):=by omega
  have hl:=lev_eq p (fst p q+j) k (by omega) (by omega) a1
  refine ⟨by omega,?_⟩
  unfold parN
  rw [hl]
  rw [Prod.mk.injEq]
  constructor <;> omega
 ·rintro ⟨a,b⟩
  unfold parN at b
  rw [Prod.mk.injEq] at b
  have il:=lev_lo p i
  have ih:=lev_hi p i (by omega)
  have i3:=lev_le p i
  obtain ⟨b1,b2⟩:=b
  have e:lev p i=k:=by
   have r1:=root_one p h0 h1
   have t1:=top_le p
   have lt:lev p i+1≤3:=by
    rcases Nat.lt_or_ge (lev p i) 3 with h | h
    ·exact h
    ·exfalso
     have e3:lev p i=3:=by omega
     rw [e3] at il
     have:topn p=3:=by
      rcases Nat.lt_or_ge (topn p) 3 with h | h
      ·exfalso
       have:itn p≤stn p 3:=by
        unfold itn
        have:topn p=1∨topn p=2:=by omega
        rcases this with e | e <;> rw [e] <;> simp only [stn] <;> omega
       omega
      ·omega
     rw [this] at r1
     omega
   have hq1:stn p (lev p i+1)≤q:=by omega
   have hs3:=stn_lvn p (lev p i) (by omega)
   have hs4:=stn_lvn p (lev p i+1) (by omega)
   have hc2:=lvn_cnt p (lev p i) (by omega)
   have hcl2:=cnt_le (lvn p (lev p i))
   have hq2:q < stn p (lev p i+1+1):=by omega
   have:=lev_eq p q (lev p i+1) (by omega) hq1 hq2
   omega
  rw [e] at b1 b2 il ih
  constructor <;> omega
theorem stn_mono (p a b:Nat) (h:a≤b) (hb:b≤4):stn p a≤stn p b:=by
 match b,hb,a,h with
 | 0,_,0,_=>exact Nat.le_refl _
 | 1,_,0,_=>simp [stn]
 | 1,_,1,_=>exact Nat.le_refl _
 | 2,_,0,_=>simp [stn]
 | 2,_,1,_=>simp [stn]
 | 2,_,2,_=>exact Nat.le_refl _
 | 3,_,0,_=>simp [stn]
 | 3,_,1,_=>simp only [stn];omega
 | 3,_,2,_=>simp [stn]
 | 3,_,3,_=>exact Nat.le_refl _
 | 4,_,0,_=>simp [stn]
 | 4,_,1,_=>simp only [stn];omega
 | 4,_,2,_=>simp only [stn];omega
 | 4,_,3,_=>simp [stn]
 | 4,_,4,_=>exact Nat.le_refl _
theorem lev_top (p i:Nat) (h0:1≤p) (h1:p≤216):i+1 < itn p ↔ (i < itn p∧lev p i < topn p):=by
 have r:=root_one p h0 h1
 have t:=top_le p
 have h4:=itn_le p
 constructor
 ·intro h
  refine ⟨by omega,?_⟩
  rcases Nat.lt_or_ge (lev p i) (topn p) with h2 | h2
  ·exact h2
  ·exfalso
   have:=stn_mono p (topn p) (lev p i) h2 (by have:=lev_le p i;omega)
   have:=lev_lo p i
   omega
 ·rintro ⟨h,h2⟩
  have a:=lev_hi p i (by omega)
  have:=stn_mono p (lev p i+1) (topn p) h2 (by omega)
  omega
theorem par_lev (p i:Nat) (h0:1≤p) (h1:p≤216) (h:i+1 < itn p):stn p (lev p i+1)≤(parN p i).1∧(parN p i).1 < stn p (lev p i+2)∧(parN p i).1 < itn p∧p≤(parN p i).1∧lev p (parN p i).1=lev p i+1:=by
 have ⟨hit,htop⟩:=(lev_top p i h0 h1).1 h
 have t:=top_le p
 have h4:=itn_le p
 have lo:=lev_lo p i
 have hi:=lev_hi p i (by omega)
 have s1:=stn_lvn p (lev p i) (lev_le p i)
 have s2:=stn_lvn p (lev p i+1) (by omega)
 have c1:=lvn_cnt p (lev p i) (by omega)
 have c2:=cnt_le (lvn p (lev p i))
 have e:(parN p i).1=stn p (lev p i+1)+(i - stn p (lev p i)) / 6:=rfl
 have a1:stn p (lev p i+1)≤(parN p i).1:=by omega
 have a2:(parN p i).1 < stn p (lev p i+2):=by rw [e,s2,c1];omega
 have m1:=stn_mono p (lev p i+2) (topn p+1) (by omega) (by omega)
 have m2:p≤stn p (lev p i+1):=stn_mono p 1 (lev p i+1) (by omega) (by omega)
 exact ⟨a1,a2,by unfold itn;omega,by omega,lev_eq p _ (lev p i+1) (by omega) a1 a2⟩
def PZ (p:Nat) (z:Int):Int × Int × Bool:=if 0≤z∧z+1 < (itn p:Int) then (((parN p z.toNat).1:Int),((parN p z.toNat).2:Int),true) else (0,0,false)
def BZ (p:Nat) (z k:Int):Int:=if (0≤z∧z < (itn p:Int))∧0≤k∧k≤1 then 2+2*z+k else -1
theorem BZ_at (p i k:Nat) (hi:i < itn p) (hk:k < 2):BZ p (i:Int) (k:Int)=2+2*(i:Int)+(k:Int):=if_pos ⟨⟨by omega,by omega⟩,by omega,by omega⟩
def itp (p x:Nat):Nat→Nat
 | 0=>x
 | k+1=>(parN p (itp p x k)).1
theorem itp_lev (p x:Nat) (h0:1≤p) (h1:p≤216) (hx:x < p):∀ k,k≤topn p→stn p k≤itp p x k∧itp p x k < stn p (k+1)∧lev p (itp p x k)=k:=by
 intro k
 induction k with
 | zero=>intro _;exact ⟨Nat.zero_le _,hx,by unfold lev;rw [if_pos (show itp p x 0 < p from hx)]⟩
 | succ k ih=>
  intro hk
  obtain ⟨a,b,c⟩:=ih (by omega)
  have t:=top_le p
  have m:=stn_mono p (k+1) (topn p) hk (by omega)
  have r:=root_one p h0 h1
  have hl:=par_lev p (itp p x k) h0 h1 (by omega)
  rw [c] at hl
  exact ⟨hl.1,hl.2.1,hl.2.2.2.2⟩
def pathZ (p x n:Nat):List Int:=(List.range n).map fun k=>(itp p x k:Int)
theorem pathZ_length (p x n:Nat):(pathZ p x n).length=n:=by simp [pathZ]
theorem pathZ_succ (p x n:Nat):pathZ p x (n+1)=pathZ p x n++[(itp p x n:Int)]:=by simp [pathZ,List.range_succ]
theorem pathZ_get (p x n k:Nat) (h:k < n):(pathZ p x n).getD k 0=(itp p x k:Int):=by simp [pathZ,List.getD_eq_getElem?_getD,h]
theorem itp_par (p x k:Nat) (h0:1≤p) (h1:p≤216) (hx:x < p) (hk:k < topn p):PZ p (itp p x k:Int)=((itp p x (k+1):Int),((parN p (itp p x k)).2:Int),true):=by
 have h:=itp_lev p x h0 h1 hx k (by omega)
 have t:=top_le p
 have m:=stn_mono p (k+1) (topn p) hk (by omega)
 have r:=root_one p h0 h1
 unfold PZ
 rw [if_pos ⟨by omega,by omega⟩,Int.toNat_natCast];rfl
theorem itp_end (p x:Nat) (h0:1≤p) (h1:p≤216) (hx:x < p):PZ p (itp p x (topn p):Int)=(0,0,false):=by
 have h:=itp_lev p x h0 h1 hx (topn p) (Nat.le_refl _)
 have r:=root_one p h0 h1
 unfold PZ
 rw [if_neg (by omega)]
def WZ (p:Nat) (z:Int):List Int:=if 0≤z∧z < (p:Int) then pathZ p z.toNat (topn p+1) else []
end Sha
end Go.Proofs.YtlhnegbjoncieaaGreatDoor
namespace Go.Proofs.YtlhnegbjoncieaaGreatDoor
namespace Sha
def nbyte (m i:Nat):BitVec 8:=BitVec.ofNat 8 (m / 256 ^ i)
def nbytes (m k:Nat):List (BitVec 8):=(List.range k).map (nbyte m)
def leN:List (BitVec 8)→Nat
 | []=>0
 | x::l=>x.toNat+256*leN l
theorem nbytes_length (m k:Nat):(nbytes m k).length=k:=by simp [nbytes]
theorem leN_lt:∀ l:List (BitVec 8),leN l < 256 ^ l.length
 | []=>by simp [leN]
 | x::l=>by
  have h:=leN_lt l
  have hx:=x.isLt
  rw [leN,List.length_cons,Nat.pow_succ]
  omega
theorem leN_64 (l:List (BitVec 8)) (h:l.length≤8):leN l < 18446744073709551616:=by
 have h1:=leN_lt l
 have h2:256 ^ l.length≤256 ^ 8:=Nat.pow_le_pow_right (by decide) h
 have h3:(256 ^ 8:Nat)=18446744073709551616:=by decide
 omega
def cutN (z:Int) (lo hi:Nat):Nat:=(min (max z (lo:Int)) (hi:Int)).toNat
theorem cutN_val (z:Int) (lo hi:Nat) (_h:lo≤hi):((cutN z lo hi:Nat):Int)=min (max z (lo:Int)) (hi:Int):=by unfold cutN;omega
theorem cutN_lo (z:Int) (lo hi:Nat) (h:lo≤hi):lo≤cutN z lo hi:=by unfold cutN;omega
theorem cutN_hi (z:Int) (lo hi:Nat):cutN z lo hi≤hi:=by unfold cutN;omega
def allZ (l:List (BitVec 8)):Bool:=l.all (· == 0)
structure Rd3 where
 x:List (BitVec 8)
 b:List (BitVec 8)
 e:Nat
def rdTake (b:List (BitVec 8)) (e n:Nat):Rd3:=if e≠0 then ⟨[],b,e⟩ else if b.length < n then ⟨[],b,4⟩ else ⟨b.take n,b.drop n,0⟩
def rdNum (b:List (BitVec 8)) (e:Nat) (k most:Nat):Nat × List (BitVec 8) × Nat:=
 if (rdTake b e k).e≠0 then (0,(rdTake b e k).b,(rdTake b e k).e) else if most < leN (rdTake b e k).x then (0,(rdTake b e k).b,3) else (leN (rdTake b e k).x,(rdTake b e k).b,0)
def rdRest (b:List (BitVec 8)) (e:Nat):Nat:=if e=0∧allZ b=false then 3 else e
theorem rdTake_len (b:List (BitVec 8)) (e n:Nat) (h:(rdTake b e n).e=0):(rdTake b e n).x.length=n∧e=0∧n≤b.length:=by
 unfold rdTake at *
 split at h <;> rename_i h1
 ·exact absurd h h1
 ·split at h <;> rename_i h2
  ·simp at h
  ·rw [if_neg h1,if_neg h2]
   exact ⟨by simp;omega,by omega,by omega⟩
theorem rdTake_err (b:List (BitVec 8)) (e n:Nat) (h:(rdTake b e n).e≠0):(rdTake b e n).x=[]∧(rdTake b e n).b=b:=by
 unfold rdTake at *
 split at h <;> rename_i h1
 ·rw [if_pos h1];exact ⟨rfl,rfl⟩
 ·split at h <;> rename_i h2
  ·rw [if_neg h1,if_pos h2];exact ⟨rfl,rfl⟩
  ·simp at h
end Sha
end Go.Proofs.YtlhnegbjoncieaaGreatDoor
namespace Go.Proofs.YtlhnegbjoncieaaGreatDoor
namespace Sha
open Go.RowKit
theorem o_ilt1 {P:Program} (a b:Int) (q:Bool) (h:decide (a < b)=q) (t t2:TypeId) (x y:Operand) (w:World):(do eqGuard .lss t x y (.int .i64 a) (.int .i64 b);binOp .lss t2 (.int .i64 a) (.int .i64 b):Sem Value).run P w=.ok (.bool q) w:=by subst h;go_simp
theorem o_ige1 {P:Program} (a b:Int) (q:Bool) (h:decide (b≤a)=q) (t t2:TypeId) (x y:Operand) (w:World):(do eqGuard .geq t x y (.int .i64 a) (.int .i64 b);binOp .geq t2 (.int .i64 a) (.int .i64 b):Sem Value).run P w=.ok (.bool q) w:=by subst h;go_simp
theorem o_inet1 {P:Program} (a b:Int) (h:¬ a=b) (t t2:TypeId) (x y:Operand) (w:World):(do eqGuard .neq t x y (.int .i64 a) (.int .i64 b);binOp .neq t2 (.int .i64 a) (.int .i64 b):Sem Value).run P w=.ok (.bool true) w:=by
 have e:(a == b)=false:=by simpa using h
 go_simp
theorem o_ineq {P:Program} (a b:Int) (h:a=b) (t t2:TypeId) (x y:Operand) (w:World):(do eqGuard .neq t x y (.int .i64 a) (.int .i64 b);binOp .neq t2 (.int .i64 a) (.int .i64 b):Sem Value).run P w=.ok (.bool false) w:=by
 subst h;go_simp
end Sha
end Go.Proofs.YtlhnegbjoncieaaGreatDoor
