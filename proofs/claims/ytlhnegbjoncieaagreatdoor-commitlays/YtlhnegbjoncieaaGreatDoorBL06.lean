/- Plain mathematics of the cipher (RFC 8439) on words and bytes. Loads in a plain region, guarded or not. Over any program. -/
import Derived.Test.YtlhnegbjoncieaaGreatDoorBL01
import Derived.Test.YtlhnegbjoncieaaGreatDoorBL00
namespace Go.Proofs.YtlhnegbjoncieaaGreatDoor
namespace Sha
structure Q4 where
 a:BitVec 32
 b:BitVec 32
 c:BitVec 32
 d:BitVec 32
def Q4.list (q:Q4):List (BitVec 32):=[q.a,q.b,q.c,q.d]
def q4 (l:List (BitVec 32)):Q4:=⟨l.getD 0 0,l.getD 1 0,l.getD 2 0,l.getD 3 0⟩
def qa1 (q:Q4):BitVec 32:=q.a+q.b
def qd1 (q:Q4):BitVec 32:=(q.d ^^^ qa1 q).rotateLeft 16
def qc1 (q:Q4):BitVec 32:=q.c+qd1 q
def qb1 (q:Q4):BitVec 32:=(q.b ^^^ qc1 q).rotateLeft 12
def qa2 (q:Q4):BitVec 32:=qa1 q+qb1 q
def qd2 (q:Q4):BitVec 32:=(qd1 q ^^^ qa2 q).rotateLeft 8
def qc2 (q:Q4):BitVec 32:=qc1 q+qd2 q
def qb2 (q:Q4):BitVec 32:=(qb1 q ^^^ qc2 q).rotateLeft 7
def qr (q:Q4):Q4:=⟨qa2 q,qb2 q,qc2 q,qd2 q⟩
def qat (w:List (BitVec 32)) (i j k l:Nat):List (BitVec 32):=
 (((w.set i (qr ⟨w.getD i 0,w.getD j 0,w.getD k 0,w.getD l 0⟩).a).set j (qr ⟨w.getD i 0,w.getD j 0,w.getD k 0,w.getD l 0⟩).b).set k (qr ⟨w.getD i 0,w.getD j 0,w.getD k 0,w.getD l 0⟩).c).set l (qr ⟨w.getD i 0,w.getD j 0,w.getD k 0,w.getD l 0⟩).d
theorem qat_length (w:List (BitVec 32)) (i j k l:Nat):(qat w i j k l).length=w.length:=by simp [qat]
def plc:List (List Nat):=[[0,4,8,12],[1,5,9,13],[2,6,10,14],[3,7,11,15],[0,5,10,15],[1,6,11,12],[2,7,8,13],[3,4,9,14]]
def qpl (w:List (BitVec 32)) (p:List Nat):List (BitVec 32):=qat w (p.getD 0 0) (p.getD 1 0) (p.getD 2 0) (p.getD 3 0)
def some8 (w:List (BitVec 32)) (m:Nat):List (BitVec 32):=(plc.take m).foldl qpl w
def all8 (w:List (BitVec 32)):Nat→List (BitVec 32)
 | 0=>w
 | n+1=>some8 (all8 w n) 8
theorem some8_next (w:List (BitVec 32)) (m:Nat) (h:m < 8):some8 w (m+1)=qpl (some8 w m) (plc.getD m []):=by
 have hm:m < plc.length:=h
 unfold some8
 rw [List.take_succ_eq_append_getElem hm,List.foldl_append]
 simp [hm]
theorem some8_length (w:List (BitVec 32)):∀ m,m≤8→(some8 w m).length=w.length
 | 0,_=>rfl
 | m+1,h=>by rw [some8_next w m (by omega),qpl,qat_length,some8_length w m (by omega)]
theorem all8_length (w:List (BitVec 32)):∀ n,(all8 w n).length=w.length
 | 0=>rfl
 | n+1=>by rw [all8,some8_length _ 8 (by decide),all8_length w n]
def le4 (x:BitVec 32):List (BitVec 8):=[wb x 0,wb x 8,wb x 16,wb x 24]
def lew (b:List (BitVec 8)) (i:Nat):BitVec 32:=
 (b.getD (4*i+3) 0).setWidth 32 <<< 24 ||| (b.getD (4*i+2) 0).setWidth 32 <<< 16 ||| (b.getD (4*i+1) 0).setWidth 32 <<< 8 ||| (b.getD (4*i) 0).setWidth 32
def cfirst (key nonce:List (BitVec 8)) (n:BitVec 32):List (BitVec 32):=
 [1634760805,857760878,2036477234,1797285236]++(List.range 8).map (lew key)++[n]++(List.range 3).map (lew nonce)
theorem cfirst_length (key nonce:List (BitVec 8)) (n:BitVec 32):(cfirst key nonce n).length=16:=by simp [cfirst]
def cwords (key nonce:List (BitVec 8)) (n:BitVec 32):List (BitVec 32):=adds (all8 (cfirst key nonce n) 10) (cfirst key nonce n)
def cByte (l:List (BitVec 32)) (i:Nat):BitVec 8:=wb (l.getD (i / 4) 0) (8*(i % 4))
def cblk (key nonce:List (BitVec 8)) (n:BitVec 32):List (BitVec 8):=(List.range 64).map (cByte (cwords key nonce n))
theorem cblk_length (key nonce:List (BitVec 8)) (n:BitVec 32):(cblk key nonce n).length=64:=by simp [cblk]
def cblks (key nonce:List (BitVec 8)) (n:BitVec 32):Nat→List (BitVec 8)
 | 0=>[]
 | j+1=>cblks key nonce n j++cblk key nonce (n+BitVec.ofNat 32 j)
theorem cblks_length (key nonce:List (BitVec 8)) (n:BitVec 32):∀ j,(cblks key nonce n j).length=64*j
 | 0=>rfl
 | j+1=>by rw [cblks,List.length_append,cblks_length key nonce n j,cblk_length];omega
theorem cblks_more (key nonce:List (BitVec 8)) (n:BitVec 32) (j:Nat):∀ i,(cblks key nonce n (j+i)).take (64*j)=cblks key nonce n j
 | 0=>by rw [Nat.add_zero,List.take_of_length_le (by rw [cblks_length];omega)]
 | i+1=>by rw [←Nat.add_assoc,cblks,List.take_append_of_le_length (by rw [cblks_length];omega),cblks_more key nonce n j i]
def cstream (key nonce:List (BitVec 8)) (n:BitVec 32) (size:Nat):List (BitVec 8):=(cblks key nonce n ((size+63) / 64)).take size
theorem cstream_length (key nonce:List (BitVec 8)) (n:BitVec 32) (size:Nat):(cstream key nonce n size).length=size:=by
 rw [cstream,List.length_take,cblks_length];omega
theorem cstream_from (key nonce:List (BitVec 8)) (n:BitVec 32) (size j:Nat) (h:size≤64*j):(cblks key nonce n j).take size=cstream key nonce n size:=by
 have hc:(size+63) / 64≤j:=by omega
 obtain ⟨i,rfl⟩:∃ i,j=(size+63) / 64+i:=⟨j - (size+63) / 64,by omega⟩
 have e:=cblks_more key nonce n ((size+63) / 64) i
 rw [cstream,←e,List.take_take]
 congr 1
 omega
def cturn (b s:List (BitVec 8)):List (BitVec 8):=List.zipWith (· ^^^ ·) b s++b.drop s.length
theorem cturn_length (b s:List (BitVec 8)) (h:s.length≤b.length):(cturn b s).length=b.length:=by
 simp [cturn];omega
theorem zip_back:∀ b s:List (BitVec 8),s.length≤b.length→List.zipWith (· ^^^ ·) (List.zipWith (· ^^^ ·) b s) s=b.take s.length
 | b,[],_=>by simp
 | [],_::_,h=>by simp at h
 | x::b,y::s,h=>by
  simp only [List.length_cons] at h
  simp only [List.zipWith_cons_cons,List.length_cons,List.take_succ_cons,zip_back b s (by omega)]
  rw [BitVec.xor_assoc,BitVec.xor_self,BitVec.xor_zero]
theorem cturn_back (b s:List (BitVec 8)) (h:s.length≤b.length):cturn (cturn b s) s=b:=by
 have hz:(List.zipWith (· ^^^ ·) b s:List (BitVec 8)).length=s.length:=by simp;omega
 have h1:List.zipWith (· ^^^ ·) (cturn b s) s=b.take s.length:=by
  rw [←zip_back b s h,cturn]
  have:List.zipWith (· ^^^ ·) (List.zipWith (· ^^^ ·) b s++b.drop s.length) (s++[])=List.zipWith (· ^^^ ·) (List.zipWith (· ^^^ ·) b s) s++List.zipWith (· ^^^ ·) (b.drop s.length) []:=List.zipWith_append hz
  simpa using this
 have h2:(cturn b s).drop s.length=b.drop s.length:=by
  unfold cturn
  rw [List.drop_append,hz,Nat.sub_self,List.drop_zero,List.drop_of_length_le (by rw [hz];exact Nat.le_refl _),List.nil_append]
 rw [cturn,h1,h2,List.take_append_drop]
def wb64 (x:BitVec 64) (k:Nat):BitVec 8:=(x >>> k).setWidth 8
def cnonce (e:BitVec 32) (b:BitVec 64):List (BitVec 8):=(List.range 4).map (fun i=>wb e (8*i))++(List.range 8).map fun i=>wb64 b (8*i)
theorem cnonce_length (e:BitVec 32) (b:BitVec 64):(cnonce e b).length=12:=by simp [cnonce]
end Sha
end Go.Proofs.YtlhnegbjoncieaaGreatDoor
namespace Go.Proofs.YtlhnegbjoncieaaGreatDoor
namespace Mem
open Go.RowKit
theorem wpList_load_is_wanted {P:Program} {ops:Array Oper} {rest:List Oper} {o:Oper} {a:Act} {w:World} {Q:Exit→Act→World→Prop} (hw:Region.wanted o (yielded ops a.tmps)=true) (ty:TypeId) (x:Operand) (hop:o.op=.load ty x)
 (b c n:Nat) (hx:a.eval x=.pointer (some ⟨b,c,none⟩)) (d:TypeDesc) (hu:P.underlying ty=some d) (hd:d.isRow=true) (hi:(P.info? ty).map (·.size)=some n)
 (C:Array Value) (t:TypeId) (hC:At w b C t) (hn:c+n≤C.size) (R:Array Value) (hR:C.extract c (c+n)=R) (h:wpList P ops Q rest (a.put o.dst (.agg R)) w):wpList P ops Q (o::rest) a w:=by
 unfold wpList
 rw [if_pos hw]
 left
 unfold Oper.wp
 have hr:=run_loadAt_mid (P:=P) w b c ty (C.extract c (c+n)).toList d (hC.range c n) hu hd (by rw [hi];simp;omega)
 have:(execOp a.eval o).run P w=.ok (.value (.agg R)) w:=by
  unfold execOp
  simp only [hop,hx,Sem.run_bind,hr,Result.andThen_ok,Sem.run_pure]
  simp [hR]
 rw [this]
 exact h
end Mem
end Go.Proofs.YtlhnegbjoncieaaGreatDoor
