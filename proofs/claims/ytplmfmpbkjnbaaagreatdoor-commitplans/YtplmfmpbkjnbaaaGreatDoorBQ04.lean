/- My own texts, merged. -/
import Derived.Test.YtplmfmpbkjnbaaaGreatDoorBQ00
namespace Go.Proofs.YtplmfmpbkjnbaaaGreatDoor
namespace Sha
structure Q4 where
 a:BitVec 32
 b:BitVec 32
 c:BitVec 32
 d:BitVec 32
def Q4.list (q:Q4):List (BitVec 32):=[q.a,q.b,q.c,q.d]
def q4 (l:List (BitVec 32)):Q4:=⟨l.getD 0 0,l.getD 1 0,l.getD 2 0,l.getD 3 0⟩
def qa1 (q:Q4):BitVec 32:=q.a+q.b
def qd1 (q:Q4):BitVec 32:=(q.d ^^^ qa1 q).rotateLeft 16
def qc1 (q:Q4):BitVec 32:=q.c+qd1 q
def qb1 (q:Q4):BitVec 32:=(q.b ^^^ qc1 q).rotateLeft 12
def qa2 (q:Q4):BitVec 32:=qa1 q+qb1 q
def qd2 (q:Q4):BitVec 32:=(qd1 q ^^^ qa2 q).rotateLeft 8
def qc2 (q:Q4):BitVec 32:=qc1 q+qd2 q
def qb2 (q:Q4):BitVec 32:=(qb1 q ^^^ qc2 q).rotateLeft 7
def qr (q:Q4):Q4:=⟨qa2 q,qb2 q,qc2 q,qd2 q⟩
def qat (w:List (BitVec 32)) (i j k l:Nat):List (BitVec 32):=
 (((w.set i (qr ⟨w.getD i 0,w.getD j 0,w.getD k 0,w.getD l 0⟩).a).set j (qr ⟨w.getD i 0,w.getD j 0,w.getD k 0,w.getD l 0⟩).b).set k (qr ⟨w.getD i 0,w.getD j 0,w.getD k 0,w.getD l 0⟩).c).set l (qr ⟨w.getD i 0,w.getD j 0,w.getD k 0,w.getD l 0⟩).d
theorem qat_length (w:List (BitVec 32)) (i j k l:Nat):(qat w i j k l).length=w.length:=by simp [qat]
def plc:List (List Nat):=[[0,4,8,12],[1,5,9,13],[2,6,10,14],[3,7,11,15],[0,5,10,15],[1,6,11,12],[2,7,8,13],[3,4,9,14]]
def qpl (w:List (BitVec 32)) (p:List Nat):List (BitVec 32):=qat w (p.getD 0 0) (p.getD 1 0) (p.getD 2 0) (p.getD 3 0)
def some8 (w:List (BitVec 32)) (m:Nat):List (BitVec 32):=(plc.take m).foldl qpl w
def all8 (w:List (BitVec 32)):Nat→List (BitVec 32)
 | 0=>w
 | n+1=>some8 (all8 w n) 8
theorem some8_next (w:List (BitVec 32)) (m:Nat) (h:m < 8):some8 w (m+1)=qpl (some8 w m) (plc.getD m []):=by
 have hm:m < plc.length:=h
 unfold some8
 rw [List.take_succ_eq_append_getElem hm,List.foldl_append]
 simp [hm]
theorem some8_length (w:List (BitVec 32)):∀ m,m≤8→(some8 w m).length=w.length
 | 0,_=>rfl
 | m+1,h=>by rw [some8_next w m (by omega),qpl,qat_length,some8_length w m (by omega)]
theorem all8_length (w:List (BitVec 32)):∀ n,(all8 w n).length=w.length
 | 0=>rfl
 | n+1=>by rw [all8,some8_length _ 8 (by decide),all8_length w n]
def le4 (x:BitVec 32):List (BitVec 8):=[wb x 0,wb x 8,wb x 16,wb x 24]
def lew (b:List (BitVec 8)) (i:Nat):BitVec 32:=
 (b.getD (4*i+3) 0).setWidth 32 <<< 24 ||| (b.getD (4*i+2) 0).setWidth 32 <<< 16 ||| (b.getD (4*i+1) 0).setWidth 32 <<< 8 ||| (b.getD (4*i) 0).setWidth 32
def cfirst (key nonce:List (BitVec 8)) (n:BitVec 32):List (BitVec 32):=
 [1634760805,857760878,2036477234,1797285236]++(List.range 8).map (lew key)++[n]++(List.range 3).map (lew nonce)
theorem cfirst_length (key nonce:List (BitVec 8)) (n:BitVec 32):(cfirst key nonce n).length=16:=by simp [cfirst]
def cwords (key nonce:List (BitVec 8)) (n:BitVec 32):List (BitVec 32):=adds (all8 (cfirst key nonce n) 10) (cfirst key nonce n)
def cByte (l:List (BitVec 32)) (i:Nat):BitVec 8:=wb (l.getD (i / 4) 0) (8*(i % 4))
def cblk (key nonce:List (BitVec 8)) (n:BitVec 32):List (BitVec 8):=(List.range 64).map (cByte (cwords key nonce n))
theorem cblk_length (key nonce:List (BitVec 8)) (n:BitVec 32):(cblk key nonce n).length=64:=by simp [cblk]
def cblks (key nonce:List (BitVec 8)) (n:BitVec 32):Nat→List (BitVec 8)
 | 0=>[]
 | j+1=>cblks key nonce n j++cblk key nonce (n+BitVec.ofNat 32 j)
theorem cblks_length (key nonce:List (BitVec 8)) (n:BitVec 32):∀ j,(cblks key nonce n j).length=64*j
 | 0=>rfl
 | j+1=>by rw [cblks,List.length_append,cblks_length key nonce n j,cblk_length];omega
theorem cblks_more (key nonce:List (BitVec 8)) (n:BitVec 32) (j:Nat):∀ i,(cblks key nonce n (j+i)).take (64*j)=cblks key nonce n j
 | 0=>by rw [Nat.add_zero,List.take_of_length_le (by rw [cblks_length];omega)]
 | i+1=>by rw [←Nat.add_assoc,cblks,List.take_append_of_le_length (by rw [cblks_length];omega),cblks_more key nonce n j i]
def cstream (key nonce:List (BitVec 8)) (n:BitVec 32) (size:Nat):List (BitVec 8):=(cblks key nonce n ((size+63) / 64)).take size
theorem cstream_length (key nonce:List (BitVec 8)) (n:BitVec 32) (size:Nat):(cstream key nonce n size).length=size:=by
 rw [cstream,List.length_take,cblks_length];omega
theorem cstream_from (key nonce:List (BitVec 8)) (n:BitVec 32) (size j:Nat) (h:size≤64*j):(cblks key nonce n j).take size=cstream key nonce n size:=by
 have hc:(size+63) / 64≤j:=by omega
 obtain ⟨i,rfl⟩:∃ i,j=(size+63) / 64+i:=⟨j - (size+63) / 64,by omega⟩
 have e:=cblks_more key nonce n ((size+63) / 64) i
 rw [cstream,←e,List.take_take]
 congr 1
 omega
def cturn (b s:List (BitVec 8)):List (BitVec 8):=List.zipWith (· ^^^ ·) b s++b.drop s.length
theorem cturn_length (b s:List (BitVec 8)) (h:s.length≤b.length):(cturn b s).length=b.length:=by
 simp [cturn];omega
def wb64 (x:BitVec 64) (k:Nat):BitVec 8:=(x >>> k).setWidth 8
def cnonce (e:BitVec 32) (b:BitVec 64):List (BitVec 8):=(List.range 4).map (fun i=>wb e (8*i))++(List.range 8).map fun i=>wb64 b (8*i)
theorem cnonce_length (e:BitVec 32) (b:BitVec 64):(cnonce e b).length=12:=by simp [cnonce]
end Sha
end Go.Proofs.YtplmfmpbkjnbaaaGreatDoor
namespace Go.Proofs.YtplmfmpbkjnbaaaGreatDoor
namespace Mem
open Go.RowKit
variable {P:Program} {ops:Array Oper} {K:World→Prop} {Q:Act→Prop} {a:Act} {op:Oper} {rest:List Oper}
theorem wpQuiet_value (hgd:op.guard=none) (v:Value) (hv:∀ w,K w→(execOp a.eval op).run P w=.ok (.value v) w) (h:wpQuiet P ops K Q rest (a.put op.dst v)):wpQuiet P ops K Q (op::rest) a:=by
 refine wpQuiet_step fun L hL=>?_
 rw [if_pos (by simp [Region.wanted,hgd])]
 refine ⟨v,fun w hw=>?_,hL _ h⟩
 unfold Oper.quietAt
 rw [hv w hw]
 exact ⟨rfl,rfl⟩
theorem wpQuiet_load_all (hgd:op.guard=none) (ty:TypeId) (x:Operand) (ho:op.op=.load ty x) (b:Nat) (hx:a.eval x=.pointer (some ⟨b,0,none⟩)) (d:TypeDesc) (hu:P.underlying ty=some d) (hd:d.isRow=true)
 (C:Array Value) (t:TypeId) (hC:∀ w,K w→At w b C t) (hi:(P.info? ty).map (·.size)=some C.size) (h:wpQuiet P ops K Q rest (a.put op.dst (.agg C))):wpQuiet P ops K Q (op::rest) a:=
 wpQuiet_value hgd (.agg C) (fun w hw=>by
  have hr:=run_loadAt_mid (P:=P) w b 0 ty (C.extract 0 (0+C.size)).toList d ((hC w hw).range 0 C.size) hu hd (by rw [hi];simp)
  unfold execOp
  simp only [ho,hx,Sem.run_bind,hr,Result.andThen_ok,Sem.run_pure]
  simp) h
theorem wpQuiet_slice_arr_to (hgd:op.guard=none) (ty:TypeId) (x i:Operand) (ho:op.op=.slice ty x none (some i) none)
 (n:Nat) (elem:TypeId) (hu:P.underlying ty=some (.array n elem)) (hs:(P.info? elem).map (·.size)=some 1) (b o k:Nat) (hx:a.eval x=.pointer (some ⟨b,o,none⟩)) (hi:a.eval i=.int .i64 (k:Int)) (hk:k≤n)
 (h:wpQuiet P ops K Q rest (a.put op.dst (.slice (some ⟨b,o,none⟩) k n))):wpQuiet P ops K Q (op::rest) a:=
 wpQuiet_value hgd _ (fun w _=>by
  cases hq:P.info? elem with
  | none=>simp [hq] at hs
  | some q=>
   have hs1:q.size=1:=by simpa [hq] using hs
   have hat:(Instr.sliceAt ty (.pointer (some ⟨b,o,none⟩)) none (some (.int .i64 (k:Int))) none).run P w=.ok (.slice (some ⟨b,o,none⟩) k n) w:=by
    simp [Instr.sliceAt,Instr.sureAddr,Instr.sliceBounds,Instr.sliceBound,asIntOf,Sem.run_bind,run_underlying hu,sizeOf,typeInfo,hq,hk,Addr.add_mid]
   unfold execOp
   simp only [ho,hx,hi,Option.map_some,Option.map_none,Sem.run_bind,hat,Result.andThen_ok,Sem.run_pure]) h
end Mem
end Go.Proofs.YtplmfmpbkjnbaaaGreatDoor
namespace Go.Proofs.YtplmfmpbkjnbaaaGreatDoor
namespace Sha
open Go.RowKit
theorem stn_mono (p a b:Nat) (h:a≤b) (hb:b≤4):stn p a≤stn p b:=by
 match b,hb,a,h with
 | 0,_,0,_=>exact Nat.le_refl _
 | 1,_,0,_=>simp [stn]
 | 1,_,1,_=>exact Nat.le_refl _
 | 2,_,0,_=>simp [stn]
 | 2,_,1,_=>simp [stn]
 | 2,_,2,_=>exact Nat.le_refl _
 | 3,_,0,_=>simp [stn]
 | 3,_,1,_=>simp only [stn];omega
 | 3,_,2,_=>simp [stn]
 | 3,_,3,_=>exact Nat.le_refl _
 | 4,_,0,_=>simp [stn]
 | 4,_,1,_=>simp only [stn];omega
 | 4,_,2,_=>simp only [stn];omega
 | 4,_,3,_=>simp [stn]
 | 4,_,4,_=>exact Nat.le_refl _
theorem lev_top (p i:Nat) (h0:1≤p) (h1:p≤216):i+1 < itn p ↔ (i < itn p∧lev p i < topn p):=by
 have r:=root_one p h0 h1
 have t:=top_le p
 have h4:=itn_le p
 constructor
 ·intro h
  refine ⟨by omega,?_⟩
  rcases Nat.lt_or_ge (lev p i) (topn p) with h2 | h2
  ·exact h2
  ·exfalso
   have:=stn_mono p (topn p) (lev p i) h2 (by have:=lev_le p i;omega)
   have:=lev_lo p i
   omega
 ·rintro ⟨h,h2⟩
  have a:=lev_hi p i (by omega)
  have:=stn_mono p (lev p i+1) (topn p) h2 (by omega)
  omega
theorem par_lev (p i:Nat) (h0:1≤p) (h1:p≤216) (h:i+1 < itn p):stn p (lev p i+1)≤(parN p i).1∧(parN p i).1 < stn p (lev p i+2)∧(parN p i).1 < itn p∧p≤(parN p i).1∧lev p (parN p i).1=lev p i+1:=by
 have ⟨hit,htop⟩:=(lev_top p i h0 h1).1 h
 have t:=top_le p
 have h4:=itn_le p
 have lo:=lev_lo p i
 have hi:=lev_hi p i (by omega)
 have s1:=stn_lvn p (lev p i) (lev_le p i)
 have s2:=stn_lvn p (lev p i+1) (by omega)
 have c1:=lvn_cnt p (lev p i) (by omega)
 have c2:=cnt_le (lvn p (lev p i))
 have e:(parN p i).1=stn p (lev p i+1)+(i - stn p (lev p i)) / 6:=rfl
 have a1:stn p (lev p i+1)≤(parN p i).1:=by omega
 have a2:(parN p i).1 < stn p (lev p i+2):=by rw [e,s2,c1];omega
 have m1:=stn_mono p (lev p i+2) (topn p+1) (by omega) (by omega)
 have m2:p≤stn p (lev p i+1):=stn_mono p 1 (lev p i+1) (by omega) (by omega)
 exact ⟨a1,a2,by unfold itn;omega,by omega,lev_eq p _ (lev p i+1) (by omega) a1 a2⟩
def PZ (p:Nat) (z:Int):Int × Int × Bool:=if 0≤z∧z+1 < (itn p:Int) then (((parN p z.toNat).1:Int),((parN p z.toNat).2:Int),true) else (0,0,false)
theorem PZ_found (p q j:Nat) (z:Int) (h0:1≤p) (h1:p≤216) (hq:p≤q) (hqt:q < itn p) (hj:j < many p q) (hz:((fst p q+j:Nat):Int)=z):PZ p z=((q:Int),(j:Int),true):=by
 have h:=(kid_iff p q (fst p q+j) j h0 h1 hq hqt).1 ⟨hj,rfl⟩
 subst hz
 unfold PZ
 rw [if_pos ⟨by omega,by omega⟩,Int.toNat_natCast,h.2]
theorem PZ_none (p:Nat) (z:Int) (h0:1≤p) (h1:p≤216) (h:∀ q,q < itn p→p≤q→∀ j,j < many p q→((fst p q+j:Nat):Int)≠z):PZ p z=(0,0,false):=by
 unfold PZ
 refine if_neg fun hc=>?_
 obtain ⟨i,rfl⟩:∃ i:Nat,z=(i:Int):=⟨z.toNat,by omega⟩
 have hl:=par_lev p i h0 h1 (by omega)
 have hk:=(kid_iff p (parN p i).1 i (parN p i).2 h0 h1 hl.2.2.2.1 hl.2.2.1).2 ⟨by omega,rfl⟩
 exact h _ hl.2.2.1 hl.2.2.2.1 _ hk.1 (by rw [hk.2])
def BZ (p:Nat) (z k:Int):Int:=if (0≤z∧z < (itn p:Int))∧0≤k∧k≤1 then 2+2*z+k else -1
theorem BZ_at (p i k:Nat) (hi:i < itn p) (hk:k < 2):BZ p (i:Int) (k:Int)=2+2*(i:Int)+(k:Int):=if_pos ⟨⟨by omega,by omega⟩,by omega,by omega⟩
def itp (p x:Nat):Nat→Nat
 | 0=>x
 | k+1=>(parN p (itp p x k)).1
theorem itp_lev (p x:Nat) (h0:1≤p) (h1:p≤216) (hx:x < p):∀ k,k≤topn p→stn p k≤itp p x k∧itp p x k < stn p (k+1)∧lev p (itp p x k)=k:=by
 intro k
 induction k with
 | zero=>intro _;exact ⟨Nat.zero_le _,hx,by unfold lev;rw [if_pos (show itp p x 0 < p from hx)]⟩
 | succ k ih=>
  intro hk
  obtain ⟨a,b,c⟩:=ih (by omega)
  have t:=top_le p
  have m:=stn_mono p (k+1) (topn p) hk (by omega)
  have r:=root_one p h0 h1
  have hl:=par_lev p (itp p x k) h0 h1 (by omega)
  rw [c] at hl
  exact ⟨hl.1,hl.2.1,hl.2.2.2.2⟩
def pathZ (p x n:Nat):List Int:=(List.range n).map fun k=>(itp p x k:Int)
theorem pathZ_length (p x n:Nat):(pathZ p x n).length=n:=by simp [pathZ]
theorem pathZ_succ (p x n:Nat):pathZ p x (n+1)=pathZ p x n++[(itp p x n:Int)]:=by simp [pathZ,List.range_succ]
theorem pathZ_get (p x n k:Nat) (h:k < n):(pathZ p x n).getD k 0=(itp p x k:Int):=by simp [pathZ,List.getD_eq_getElem?_getD,h]
theorem itp_par (p x k:Nat) (h0:1≤p) (h1:p≤216) (hx:x < p) (hk:k < topn p):PZ p (itp p x k:Int)=((itp p x (k+1):Int),((parN p (itp p x k)).2:Int),true):=by
 have h:=itp_lev p x h0 h1 hx k (by omega)
 have t:=top_le p
 have m:=stn_mono p (k+1) (topn p) hk (by omega)
 have r:=root_one p h0 h1
 unfold PZ
 rw [if_pos ⟨by omega,by omega⟩,Int.toNat_natCast];rfl
theorem itp_end (p x:Nat) (h0:1≤p) (h1:p≤216) (hx:x < p):PZ p (itp p x (topn p):Int)=(0,0,false):=by
 have h:=itp_lev p x h0 h1 hx (topn p) (Nat.le_refl _)
 have r:=root_one p h0 h1
 unfold PZ
 rw [if_neg (by omega)]
def WZ (p:Nat) (z:Int):List Int:=if 0≤z∧z < (p:Int) then pathZ p z.toNat (topn p+1) else []
theorem itp_root (p x:Nat) (h0:1≤p) (h1:p≤216) (hx:x < p):itp p x (topn p)+1=itn p:=by
 have h:=itp_lev p x h0 h1 hx (topn p) (Nat.le_refl _)
 have r:=root_one p h0 h1
 have s:=stn_lvn p (topn p) (top_le p).2
 omega
end Sha
end Go.Proofs.YtplmfmpbkjnbaaaGreatDoor
