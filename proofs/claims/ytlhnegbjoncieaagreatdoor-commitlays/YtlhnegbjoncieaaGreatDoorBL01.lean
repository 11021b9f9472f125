/- My own texts, merged. -/
import Derived.WalkKit
import Derived.Test.YtlhnegbjoncieaaGreatDoorChecked
import Derived.WalkSpells
import Derived.WalkLawsBesides
import Derived.Lib.Hide
import Derived.Deep.QuietTactic
import Derived.BigQuiet
import Derived.Deep.MidRow
import Derived.Deep.DeepFit
set_option maxRecDepth 100000
set_option maxHeartbeats 400000
namespace Go.Proofs.YtlhnegbjoncieaaGreatDoor
namespace Sha
open Go.RowKit
def V (x:BitVec 32):Int:=x.toNat
theorem V_lo (x:BitVec 32):0≤V x:=Int.natCast_nonneg _
theorem V_hi (x:BitVec 32):V x < 4294967296:=by unfold V;have:=x.isLt;omega
def u32s (l:List (BitVec 32)):List Value:=l.map fun x=>.int .u32 (V x)
def u8s (l:List (BitVec 8)):List Value:=l.map fun x=>.int .u8 (x.toNat:Int)
theorem u32s_length (l:List (BitVec 32)):(u32s l).length=l.length:=by simp [u32s]
theorem u8s_length (l:List (BitVec 8)):(u8s l).length=l.length:=by simp [u8s]
theorem u32s_get (l:List (BitVec 32)) (i:Nat) (h:i < l.length):(u32s l)[i]?=some (.int .u32 (V (l.getD i 0))):=by
 simp [u32s,h]
theorem u8s_get (l:List (BitVec 8)) (i:Nat) (h:i < l.length):(u8s l)[i]?=some (.int .u8 ((l.getD i 0).toNat:Int)):=by
 simp [u8s,h]
/-! ### the model's integers as words -/
theorem r_wrap (n:Nat):IntKind.u32.wrap (n:Int)=((n % 4294967296:Nat):Int):=by
 simp [IntKind.wrap,IntKind.bits,IntKind.signed]
theorem r_ofInt (x:BitVec 32):BitVec.ofInt 32 (x.toNat:Int)=x:=by
 rw [BitVec.ofInt_natCast];simp
theorem r_mod (x:BitVec 32):x.toNat % 4294967296=x.toNat:=Nat.mod_eq_of_lt x.isLt
theorem r_xor (a b:BitVec 32):bits .xor .u32 (V a) (V b)=V (a ^^^ b):=by
 show IntKind.u32.wrap (((BitVec.ofInt 32 (a.toNat:Int)) ^^^ (BitVec.ofInt 32 (b.toNat:Int))).toNat:Int)=_
 rw [r_ofInt,r_ofInt,r_wrap,r_mod];rfl
theorem r_and (a b:BitVec 32):bits .and .u32 (V a) (V b)=V (a &&& b):=by
 show IntKind.u32.wrap (((BitVec.ofInt 32 (a.toNat:Int)) &&& (BitVec.ofInt 32 (b.toNat:Int))).toNat:Int)=_
 rw [r_ofInt,r_ofInt,r_wrap,r_mod];rfl
theorem r_or (a b:BitVec 32):bits .or .u32 (V a) (V b)=V (a ||| b):=by
 show IntKind.u32.wrap (((BitVec.ofInt 32 (a.toNat:Int)) ||| (BitVec.ofInt 32 (b.toNat:Int))).toNat:Int)=_
 rw [r_ofInt,r_ofInt,r_wrap,r_mod];rfl
theorem r_add' (a b:BitVec 32):IntKind.u32.wrap (V a+V b)=V (a+b):=by
 unfold V
 rw [←Int.natCast_add,r_wrap,BitVec.toNat_add]
theorem r_add (a b:BitVec 32):(V a+V b) % (4294967296:Int)=V (a+b):=by
 rw [←r_add'];simp [IntKind.wrap,IntKind.bits,IntKind.signed]
theorem r_add4 (a b c d:BitVec 32):(V a+V b+V c+V d) % (4294967296:Int)=V (a+b+c+d):=by
 rw [←r_add (a+b+c) d,←r_add (a+b) c,←r_add a b];omega
theorem r_add5 (a b c d e:BitVec 32):(V a+V b+V c+V d+V e) % (4294967296:Int)=V (a+b+c+d+e):=by
 rw [←r_add (a+b+c+d) e,←r_add4 a b c d];omega
theorem u32s_one (l:List (BitVec 32)):(u32s l).toArray.all (·.oneCell')=true:=by
 simp [u32s,Value.oneCell']
theorem u8s_one (l:List (BitVec 8)):(u8s l).toArray.all (·.oneCell')=true:=by
 simp [u8s,Value.oneCell']
/-! ### the digest -/
def Kl:List (BitVec 32):=[1116352408,1899447441,3049323471,3921009573,961987163,1508970993,2453635748,2870763221,3624381080,310598401,607225278,1426881987,1925078388,2162078206,2614888103,3248222580,3835390401,4022224774,264347078,604807628,770255983,1249150122,1555081692,1996064986,2554220882,2821834349,2952996808,3210313671,3336571891,3584528711,113926993,338241895,666307205,773529912,1294757372,1396182291,1695183700,1986661051,2177026350,2456956037,2730485921,2820302411,3259730800,3345764771,3516065817,3600352804,4094571909,275423344,430227734,506948616,659060556,883997877,958139571,1322822218,1537002063,1747873779,1955562222,2024104815,2227730452,2361852424,2428436474,2756734187,3204031479,3329325298]
def IVl:List (BitVec 32):=[1779033703,3144134277,1013904242,2773480762,1359893119,2600822924,528734635,1541459225]
def s0 (x:BitVec 32):BitVec 32:=x.rotateRight 7 ^^^ x.rotateRight 18 ^^^ (x >>> 3)
def s1 (x:BitVec 32):BitVec 32:=x.rotateRight 17 ^^^ x.rotateRight 19 ^^^ (x >>> 10)
def word (b:List (BitVec 8)) (t:Nat):BitVec 32:=
 (b.getD (4*t) 0).setWidth 32 <<< 24 ||| (b.getD (4*t+1) 0).setWidth 32 <<< 16 ||| (b.getD (4*t+2) 0).setWidth 32 <<< 8 ||| (b.getD (4*t+3) 0).setWidth 32
def wds (b:List (BitVec 8)):Nat→List (BitVec 32)
 | 0=>[]
 | t+1=>wds b t++[word b t]
def nextW (l:List (BitVec 32)):BitVec 32:=
 s1 (l.getD (l.length - 2) 0)+l.getD (l.length - 7) 0+s0 (l.getD (l.length - 15) 0)+l.getD (l.length - 16) 0
def ext (l:List (BitVec 32)):Nat→List (BitVec 32)
 | 0=>l
 | k+1=>ext l k++[nextW (ext l k)]
def sched (b:List (BitVec 8)):List (BitVec 32):=ext (wds b 16) 48
structure Reg where
 a:BitVec 32
 b:BitVec 32
 c:BitVec 32
 d:BitVec 32
 e:BitVec 32
 f:BitVec 32
 g:BitVec 32
 h:BitVec 32
def tee (k w:BitVec 32) (r:Reg):BitVec 32:=
 r.h+(r.e.rotateRight 6 ^^^ r.e.rotateRight 11 ^^^ r.e.rotateRight 25)+(r.e &&& r.f ^^^ ~~~r.e &&& r.g)+k+w
def you (r:Reg):BitVec 32:=
 (r.a.rotateRight 2 ^^^ r.a.rotateRight 13 ^^^ r.a.rotateRight 22)+(r.a &&& r.b ^^^ r.a &&& r.c ^^^ r.b &&& r.c)
def rnd (k w:BitVec 32) (r:Reg):Reg:=⟨tee k w r+you r,r.a,r.b,r.c,r.d+tee k w r,r.e,r.f,r.g⟩
def rnds (w:List (BitVec 32)) (r:Reg):Nat→Reg
 | 0=>r
 | t+1=>rnd (Kl.getD t 0) (w.getD t 0) (rnds w r t)
def Reg.list (r:Reg):List (BitVec 32):=[r.a,r.b,r.c,r.d,r.e,r.f,r.g,r.h]
def regOf (l:List (BitVec 32)):Reg:=⟨l.getD 0 0,l.getD 1 0,l.getD 2 0,l.getD 3 0,l.getD 4 0,l.getD 5 0,l.getD 6 0,l.getD 7 0⟩
def adds (l m:List (BitVec 32)):List (BitVec 32):=List.zipWith (·+·) l m
theorem word_val (b0 b1 b2 b3:BitVec 8) :
 bits .or .u32 (bits .or .u32 (bits .or .u32 ((b0.toNat:Int)*16777216) ((b1.toNat:Int)*65536)) ((b2.toNat:Int)*256)) (b3.toNat:Int) =
  V (b0.setWidth 32 <<< 24 ||| b1.setWidth 32 <<< 16 ||| b2.setWidth 32 <<< 8 ||| b3.setWidth 32):=by
 have l0:=b0.isLt
 have l1:=b1.isLt
 have l2:=b2.isLt
 have l3:=b3.isLt
 have e0:(b0.toNat:Int)*(16777216:Int)=V (b0.setWidth 32 <<< 24):=by
  unfold V;rw [BitVec.toNat_shiftLeft,BitVec.toNat_setWidth,Nat.shiftLeft_eq];omega
 have e1:(b1.toNat:Int)*(65536:Int)=V (b1.setWidth 32 <<< 16):=by
  unfold V;rw [BitVec.toNat_shiftLeft,BitVec.toNat_setWidth,Nat.shiftLeft_eq];omega
 have e2:(b2.toNat:Int)*(256:Int)=V (b2.setWidth 32 <<< 8):=by
  unfold V;rw [BitVec.toNat_shiftLeft,BitVec.toNat_setWidth,Nat.shiftLeft_eq];omega
 have e3:(b3.toNat:Int)=V (b3.setWidth 32):=by
  unfold V;rw [BitVec.toNat_setWidth];omega
 rw [e0,e1,e2,e3,r_or,r_or,r_or]
theorem r_not (x:BitVec 32):bits .xor .u32 (if IntKind.u32.signed=true then -1 else IntKind.u32.max) (V x)=V (~~~x):=by
 show IntKind.u32.wrap (((BitVec.ofInt 32 (if IntKind.u32.signed=true then -1 else IntKind.u32.max)) ^^^ (BitVec.ofInt 32 (x.toNat:Int))).toNat:Int)=_
 have e:(BitVec.ofInt 32 (if IntKind.u32.signed=true then -1 else IntKind.u32.max))=BitVec.allOnes 32:=by decide
 rw [e,r_ofInt,r_wrap,r_mod,BitVec.xor_comm,BitVec.xor_allOnes];rfl
theorem tee_val (k m:BitVec 32) (r:Reg) :
 (V r.h+bits BinOp.xor IntKind.u32 (bits BinOp.xor IntKind.u32 (V (r.e.rotateRight 6)) (V (r.e.rotateRight 11))) (V (r.e.rotateRight 25)) +
  bits BinOp.xor IntKind.u32 (bits BinOp.and IntKind.u32 (V r.e) (V r.f)) (bits BinOp.and IntKind.u32 (bits BinOp.xor IntKind.u32 (if IntKind.u32.signed=true then -1 else IntKind.u32.max) (V r.e)) (V r.g)) +
  V k+V m) % (4294967296:Int)=V (tee k m r):=by
 rw [r_not,r_xor,r_xor,r_and,r_and,r_xor,r_add5];rfl
theorem you_val (r:Reg) :
 (bits BinOp.xor IntKind.u32 (bits BinOp.xor IntKind.u32 (V (r.a.rotateRight 2)) (V (r.a.rotateRight 13))) (V (r.a.rotateRight 22)) +
  bits BinOp.xor IntKind.u32 (bits BinOp.xor IntKind.u32 (bits BinOp.and IntKind.u32 (V r.a) (V r.b)) (bits BinOp.and IntKind.u32 (V r.a) (V r.c))) (bits BinOp.and IntKind.u32 (V r.b) (V r.c))) % (4294967296:Int)=V (you r):=by
 rw [r_xor,r_xor,r_and,r_and,r_and,r_xor,r_xor,r_add];rfl
def addTo (l m:List (BitVec 32)) (i:Nat):List (BitVec 32):=(adds l m).take i++l.drop i
theorem addTo_length (l m:List (BitVec 32)) (h:l.length=m.length) (i:Nat):(addTo l m i).length=l.length:=by
 simp [addTo,adds,h];omega
theorem addTo_get (l m:List (BitVec 32)) (h:l.length=m.length) (i:Nat) (hi:i < l.length):(addTo l m i).getD i 0=l.getD i 0:=by
 unfold addTo
 rw [List.getD_eq_getElem?_getD,List.getD_eq_getElem?_getD,List.getElem?_append_right (by simp [adds,←h];omega)]
 simp [adds,←h,Nat.min_eq_left (Nat.le_of_lt hi)]
theorem addTo_set (l m:List (BitVec 32)) (h:l.length=m.length) (i:Nat) (hi:i < l.length):(addTo l m i).set i (l.getD i 0+m.getD i 0)=addTo l m (i+1):=by
 have hi':i < m.length:=by omega
 have e1:(adds l m).length=l.length:=by simp [adds,h]
 have e2:l.drop i=l.getD i 0::l.drop (i+1):=by
  rw [List.drop_eq_getElem_cons hi];simp [hi]
 have e3:(adds l m).take (i+1)=(adds l m).take i++[l.getD i 0+m.getD i 0]:=by
  rw [List.take_succ_eq_append_getElem (by omega)]
  simp [adds,hi,hi']
 unfold addTo
 rw [e3,e2,List.set_append_right _ _ (by simp;omega)]
 simp [e1,Nat.min_eq_left (Nat.le_of_lt hi)]
theorem addTo_all (l m:List (BitVec 32)) (h:l.length=m.length):addTo l m l.length=adds l m:=by
 have e1:(adds l m).length=l.length:=by simp [adds,h]
 unfold addTo
 rw [List.take_of_length_le (by omega),List.drop_length,List.append_nil]
theorem u32s_set (l:List (BitVec 32)) (i:Nat) (x:BitVec 32):(u32s l).toArray.setIfInBounds i (.int .u32 (V x))=(u32s (l.set i x)).toArray:=by
 simp [u32s,List.map_set]
theorem wds_length (b:List (BitVec 8)):∀ t,(wds b t).length=t
 | 0=>rfl
 | t+1=>by simp [wds,wds_length b t]
theorem ext_length (l:List (BitVec 32)):∀ k,(ext l k).length=l.length+k
 | 0=>rfl
 | k+1=>by simp [ext,ext_length l k];omega
theorem shr_val (x:BitVec 32) (k:Nat) (q:Int) (hq:q=((2 ^ k:Nat):Int)):V x / q=V (x >>> k):=by
 unfold V
 rw [BitVec.toNat_ushiftRight,Nat.shiftRight_eq_div_pow,Int.natCast_ediv,hq]
theorem shr10 (x:BitVec 32):V x / (1024:Int)=V (x >>> 10):=shr_val x 10 _ rfl
theorem shr3 (x:BitVec 32):V x / (8:Int)=V (x >>> 3):=shr_val x 3 _ rfl
theorem rotr_rotl (x:BitVec 32) (r:Nat) (h:r < 32):x.rotateLeft ((32 - r) % 32)=x.rotateRight r:=by
 rw [BitVec.rotateLeft_def,BitVec.rotateRight_def]
 by_cases h0:r=0
 ·subst h0
  have e:x >>> 32=0:=by
   apply BitVec.eq_of_toNat_eq
   rw [BitVec.toNat_ushiftRight,Nat.shiftRight_eq_div_pow,Nat.div_eq_of_lt x.isLt];rfl
  simp [e]
 ·have e:(32 - r) % 32=32 - r:=Nat.mod_eq_of_lt (by omega)
  rw [e,e,Nat.mod_eq_of_lt h,BitVec.or_comm]
  congr 2;omega
theorem and31 (m:Int):bits BinOp.and IntKind.u64 (IntKind.u64.wrap m) 31=(((m % 32).toNat:Nat):Int):=by
 have e:IntKind.u64.wrap m=(((m % 18446744073709551616).toNat:Nat):Int):=by
  have h:IntKind.u64.wrap m=m % 18446744073709551616:=by simp [IntKind.wrap,IntKind.bits,IntKind.signed]
  rw [h];omega
 have h1:(m % 18446744073709551616).toNat < 18446744073709551616:=by omega
 rw [e]
 show IntKind.u64.wrap (((BitVec.ofInt 64 (((m % 18446744073709551616).toNat:Nat):Int)) &&& (BitVec.ofInt 64 31)).toNat:Int)=_
 have e2:(BitVec.ofInt 64 31)=BitVec.ofNat 64 31:=by decide
 rw [BitVec.ofInt_natCast,e2,BitVec.toNat_and,BitVec.toNat_ofNat,BitVec.toNat_ofNat]
 have e3:(m % 18446744073709551616).toNat % 2 ^ 64=(m % 18446744073709551616).toNat:=Nat.mod_eq_of_lt h1
 have e4:31 % 2 ^ 64=2 ^ 5 - 1:=by decide
 rw [e3,e4,Nat.and_two_pow_sub_one_eq_mod]
 have e5:(m % 18446744073709551616).toNat % 2 ^ 5=(m % 32).toNat:=by omega
 rw [e5]
 have:(m % 32).toNat < 32:=by omega
 simp [IntKind.wrap,IntKind.bits,IntKind.signed];omega
end Sha
end Go.Proofs.YtlhnegbjoncieaaGreatDoor
namespace Go.Proofs.YtlhnegbjoncieaaGreatDoor
namespace Sha
open Go.RowKit
theorem u8s_set (l:List (BitVec 8)) (i:Nat) (x:BitVec 8):(u8s l).toArray.setIfInBounds i (.int .u8 (x.toNat:Int))=(u8s (l.set i x)).toArray:=by
 simp [u8s,List.map_set]
def wb (x:BitVec 32) (k:Nat):BitVec 8:=(x >>> k).setWidth 8
theorem wb_val (x:BitVec 32) (k:Nat) (q:Int) (hq:q=((2 ^ k:Nat):Int)):(V x / q % (256:Int))=((wb x k).toNat:Int):=by
 unfold wb V
 rw [BitVec.toNat_setWidth,BitVec.toNat_ushiftRight,Nat.shiftRight_eq_div_pow,hq,←Int.natCast_ediv];rfl
theorem wb24 (x:BitVec 32):(V x / (16777216:Int) % (256:Int))=((wb x 24).toNat:Int):=wb_val x 24 _ rfl
theorem wb16 (x:BitVec 32):(V x / (65536:Int) % (256:Int))=((wb x 16).toNat:Int):=wb_val x 16 _ rfl
theorem wb8 (x:BitVec 32):(V x / (256:Int) % (256:Int))=((wb x 8).toNat:Int):=wb_val x 8 _ rfl
theorem wb0 (x:BitVec 32):(V x % (256:Int))=((wb x 0).toNat:Int):=by
 have:=wb_val x 0 1 rfl
 simpa using this
theorem b_wrap (n:Nat):IntKind.u8.wrap (n:Int)=((n % 256:Nat):Int):=by
 simp [IntKind.wrap,IntKind.bits,IntKind.signed]
theorem b_ofInt (x:BitVec 8):BitVec.ofInt 8 (x.toNat:Int)=x:=by rw [BitVec.ofInt_natCast];simp
theorem b_mod (x:BitVec 8):x.toNat % 256=x.toNat:=Nat.mod_eq_of_lt x.isLt
theorem b_xor (a b:BitVec 8):bits .xor .u8 (a.toNat:Int) (b.toNat:Int)=((a ^^^ b).toNat:Int):=by
 show IntKind.u8.wrap (((BitVec.ofInt 8 (a.toNat:Int)) ^^^ (BitVec.ofInt 8 (b.toNat:Int))).toNat:Int)=_
 rw [b_ofInt,b_ofInt,b_wrap,b_mod]
def B8 (x:BitVec 8):Int:=x.toNat
theorem B8_lo (x:BitVec 8):0≤B8 x:=Int.natCast_nonneg _
theorem B8_hi (x:BitVec 8):B8 x≤255:=by unfold B8;have:=x.isLt;omega
theorem B8_xor (a b:BitVec 8):bits .xor .u8 (B8 a) (B8 b)=B8 (a ^^^ b):=b_xor a b
theorem B8_zero:B8 0=0:=rfl
theorem B8_eq (x:BitVec 8):(B8 x == 0)=(x == 0):=by
 unfold B8
 rw [Bool.eq_iff_iff,beq_iff_eq,beq_iff_eq]
 constructor
 ·intro h
  exact BitVec.eq_of_toNat_eq (by simpa using h)
 ·intro h;rw [h];rfl
theorem u8s_cells (l:List (BitVec 8)):∀ u∈u8s l,u.oneCell'=true:=by
 intro u hu
 obtain ⟨x,_,rfl⟩:=List.mem_map.1 hu
 rfl
theorem adds_getD (l m:List (BitVec 32)) (h:l.length=m.length) (i:Nat) (hi:i < l.length):(adds l m).getD i 0=l.getD i 0+m.getD i 0:=by
 have hm:i < m.length:=by omega
 simp [adds,List.getD_eq_getElem?_getD,List.getElem?_zipWith,hi,hm]
theorem i64_id (r:Int) (h0:-9223372036854775808≤r) (h1:r≤9223372036854775807):IntKind.i64.wrap r=r:=by
 simp [IntKind.wrap,IntKind.bits,IntKind.signed];omega
theorem u32_id (r:Int) (h0:0≤r) (h1:r < 4294967296):IntKind.u32.wrap r=r:=by
 simp [IntKind.wrap,IntKind.bits,IntKind.signed];omega
section
variable {P:Program}
theorem o_add (t t2:TypeId) (x y:Operand) (a b:BitVec 32) (w:World):(do eqGuard .add t x y (.int .u32 (V a)) (.int .u32 (V b));binOp .add t2 (.int .u32 (V a)) (.int .u32 (V b)):Sem Value).run P w=.ok (.int .u32 (V (a+b))) w:=by
 rw [←r_add']
 go_simp
theorem o_iadd (t t2:TypeId) (x y:Operand) (a b r:Int) (h:a+b=r) (h0:-9223372036854775808≤r) (h1:r≤9223372036854775807) (w:World):(do eqGuard .add t x y (.int .i64 a) (.int .i64 b);binOp .add t2 (.int .i64 a) (.int .i64 b):Sem Value).run P w=.ok (.int .i64 r) w:=by
 rw [←i64_id r h0 h1,←h]
 go_simp
theorem o_imul (t t2:TypeId) (x y:Operand) (a b r:Int) (h:a*b=r) (h0:-9223372036854775808≤r) (h1:r≤9223372036854775807) (w:World):(do eqGuard .mul t x y (.int .i64 a) (.int .i64 b);binOp .mul t2 (.int .i64 a) (.int .i64 b):Sem Value).run P w=.ok (.int .i64 r) w:=by
 rw [←i64_id r h0 h1,←h]
 go_simp
end
end Sha
end Go.Proofs.YtlhnegbjoncieaaGreatDoor
namespace Go.Proofs.YtlhnegbjoncieaaGreatDoor
namespace Sha
def joinB (a b:List (BitVec 8)):List (BitVec 8):=List.zipWith (· ^^^ ·) a b
def joinTo (a b:List (BitVec 8)) (i:Nat):List (BitVec 8):=(joinB a b).take i++a.drop i
theorem joinB_length (a b:List (BitVec 8)) (h:a.length=b.length):(joinB a b).length=a.length:=by simp [joinB,h]
theorem joinTo_length (a b:List (BitVec 8)) (h:a.length=b.length) (i:Nat):(joinTo a b i).length=a.length:=by
 simp [joinTo,joinB,h];omega
theorem joinTo_zero (a b:List (BitVec 8)):joinTo a b 0=a:=by simp [joinTo]
theorem joinTo_all (a b:List (BitVec 8)) (h:a.length=b.length):joinTo a b a.length=joinB a b:=by
 unfold joinTo
 rw [List.take_of_length_le (by rw [joinB_length a b h];omega),List.drop_length,List.append_nil]
theorem joinTo_get (a b:List (BitVec 8)) (h:a.length=b.length) (i:Nat) (hi:i < a.length):(joinTo a b i).getD i 0=a.getD i 0:=by
 unfold joinTo
 rw [List.getD_eq_getElem?_getD,List.getD_eq_getElem?_getD,List.getElem?_append_right (by rw [List.length_take,joinB_length a b h];omega)]
 rw [List.length_take,joinB_length a b h,Nat.min_eq_left (Nat.le_of_lt hi)]
 simp
theorem joinB_get (a b:List (BitVec 8)) (h:a.length=b.length) (i:Nat) (hi:i < a.length):(joinB a b).getD i 0=a.getD i 0 ^^^ b.getD i 0:=by
 have hb:i < b.length:=by omega
 simp [joinB,List.getD_eq_getElem?_getD,List.getElem?_zipWith,hi,hb]
theorem joinB_next (a b:List (BitVec 8)) (h:a.length=b.length) (i:Nat) (hi:i < a.length):(joinB a b).take (i+1)=(joinB a b).take i++[a.getD i 0 ^^^ b.getD i 0]:=by
 have hl:i < (joinB a b).length:=by rw [joinB_length a b h];exact hi
 rw [List.take_succ_eq_append_getElem hl,←joinB_get a b h i hi]
 simp [hl]
theorem joinTo_set (a b:List (BitVec 8)) (h:a.length=b.length) (i:Nat) (hi:i < a.length):(joinTo a b i).set i (a.getD i 0 ^^^ b.getD i 0)=joinTo a b (i+1):=by
 unfold joinTo
 rw [joinB_next a b h i hi,List.set_append_right _ _ (by rw [List.length_take,joinB_length a b h];omega),List.length_take,joinB_length a b h,Nat.min_eq_left (Nat.le_of_lt hi),Nat.sub_self,List.drop_eq_getElem_cons hi,List.set_cons_zero,List.append_assoc]
 rfl
end Sha
end Go.Proofs.YtlhnegbjoncieaaGreatDoor
namespace Go.Proofs.YtlhnegbjoncieaaGreatDoor
namespace Sha
open Go.RowKit
theorem rotl_val (x:BitVec 32) (k:Nat) (hk:k < 32) :
 bits BinOp.or IntKind.u32 (V x*2 ^ k % 4294967296) (V x / 2 ^ (32 - k))=V (x.rotateLeft k):=by
 have e1:V x*2 ^ k % 4294967296=V (x <<< k):=by
  unfold V
  rw [BitVec.toNat_shiftLeft,Nat.shiftLeft_eq]
  show _=((x.toNat*2 ^ k % 4294967296:Nat):Int)
  rw [Int.natCast_emod,Int.natCast_mul,Int.natCast_pow];rfl
 have e2:V x / 2 ^ (32 - k)=V (x >>> (32 - k)):=by
  unfold V
  rw [BitVec.toNat_ushiftRight,Nat.shiftRight_eq_div_pow,Int.natCast_ediv,Int.natCast_pow];rfl
 rw [e1,e2,r_or,BitVec.rotateLeft_def,Nat.mod_eq_of_lt hk]
theorem rotl_any (x:BitVec 32) (n:Int) (k:Nat) (w:World) (hk:bits BinOp.and IntKind.u64 (IntKind.u64.wrap n) 31=(k:Int)) (hk':k < 32) :
 Calls Tryz.prog 209 #[.int .u32 (V x),.int .i64 n] w fun e w'=>e=.returned (.int .u32 (V (x.rotateLeft k)))∧w=w':=by
 have hv0:=V_lo x
 have hv1:=V_hi x
 go_enter Tryz.func209,Tryz.ntmps209
 go_wp2
 go_ret
 exact ⟨congrArg (fun q=>Ending.returned (.int .u32 q)) (rotl_val x k hk'),rfl⟩
theorem tailSize_any (C:Array Value) (n:Nat) (w:World) (h1:C[72]?=some (.int .u64 n)) :
 Calls Tryz.prog 195 #[.agg C] w fun e w'=>e=.returned (.int .i64 (n % 64:Nat))∧Below w.heap.size w w':=by
 have h2:n % 64 < 64:=Nat.mod_lt _ (by decide)
 go_enter Tryz.func195,Tryz.ntmps195
 go_wp2
 go_ret
 exact ⟨rfl,(Below.refl _ _).alloc (Nat.le_refl _) _⟩
theorem turn_any (x:BitVec 32) (n:Int) (r:Nat) (w:World) (hr:(n % 32).toNat=r) (_h0:-9223372036854775808≤n) (_h1:n≤9223372036854775807) :
 Calls Tryz.prog 204 #[.int .u32 (V x),.int .i64 n] w fun e w'=>e=.returned (.int .u32 (V (x.rotateRight r)))∧w=w':=by
 have ht:n.tmod 32=n % 32∨(n.tmod 32=n % 32 - 32∧n % 32≠0):=by
  rw [Int.tmod_eq_emod]
  split
  ·left;omega
  ·rename_i h
   right
   refine ⟨by simp,fun e=>h (Or.inr (Int.dvd_of_emod_eq_zero e))⟩
 have hm:-32 < n.tmod 32∧n.tmod 32 < 32:=by omega
 have hk:(-n.tmod 32 % 32).toNat=(32 - r) % 32:=by omega
 have hr32:r < 32:=by omega
 have hw:wrap64 (-n.tmod 32)=-n.tmod 32:=IntWalk.wrap64_in _ (by omega)
 have c:Calls Tryz.prog 209 #[.int .u32 (V x),.int .i64 (wrap64 (-n.tmod 32))] w fun e w'=>e=.returned (.int .u32 (V (x.rotateRight r)))∧w=w':=by
  rw [hw,←rotr_rotl x r hr32,←hk]
  exact rotl_any x _ _ w (and31 _) (by omega)
 clear ht hm hk hw
 have HR:=Lib.hid hr;clear hr
 have C:=Lib.hid c;clear c
 go_enter Tryz.func204,Tryz.ntmps204
 go_wp2_with (go_at_call 209;refine C.out.mono ?_;rintro e w' ⟨rfl,rfl⟩)
 go_ret
 exact ⟨rfl,rfl⟩
end Sha
end Go.Proofs.YtlhnegbjoncieaaGreatDoor
