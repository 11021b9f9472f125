/- My own texts, merged. -/
import Derived.WalkKit
import Derived.Deep.MidRow
import Derived.Deep.Draws
import Derived.Deep.WholeRow
import Derived.Laws.CopyOwn
import Derived.Deep.RegionHeld3
import Derived.NoCompiler
import Derived.Great.Walk
import Derived.Stop.BytesEq
import Derived.Maps.AppendAt
import Derived.OwnWalk
import Derived.Laws.StructEq
import Derived.Test.YtplmfmpbkjnbaaaGreatDoorChecked
import Derived.WalkSpells
import Derived.WalkLawsBesides
import Derived.Lib.Hide
import Derived.Deep.QuietTactic
import Derived.BigQuiet
import Derived.Deep.DeepFit
import Derived.StillTailTactics
import Derived.RangeFuncNested
import Derived.RangeFuncLeaves
set_option maxRecDepth 100000
set_option maxHeartbeats 400000
namespace Go.Proofs.YtplmfmpbkjnbaaaGreatDoor
namespace Sha
open Go.RowKit
def V (x:BitVec 32):Int:=x.toNat
theorem V_lo (x:BitVec 32):0≤V x:=Int.natCast_nonneg _
theorem V_hi (x:BitVec 32):V x < 4294967296:=by unfold V;have:=x.isLt;omega
def u32s (l:List (BitVec 32)):List Value:=l.map fun x=>.int .u32 (V x)
def u8s (l:List (BitVec 8)):List Value:=l.map fun x=>.int .u8 (x.toNat:Int)
theorem u32s_length (l:List (BitVec 32)):(u32s l).length=l.length:=by simp [u32s]
theorem u8s_length (l:List (BitVec 8)):(u8s l).length=l.length:=by simp [u8s]
theorem u32s_get (l:List (BitVec 32)) (i:Nat) (h:i < l.length):(u32s l)[i]?=some (.int .u32 (V (l.getD i 0))):=by
 simp [u32s,h]
theorem u8s_get (l:List (BitVec 8)) (i:Nat) (h:i < l.length):(u8s l)[i]?=some (.int .u8 ((l.getD i 0).toNat:Int)):=by
 simp [u8s,h]
/-! ### the model's integers as words -/
theorem r_wrap (n:Nat):IntKind.u32.wrap (n:Int)=((n % 4294967296:Nat):Int):=by
 simp [IntKind.wrap,IntKind.bits,IntKind.signed]
theorem r_ofInt (x:BitVec 32):BitVec.ofInt 32 (x.toNat:Int)=x:=by
 rw [BitVec.ofInt_natCast];simp
theorem r_mod (x:BitVec 32):x.toNat % 4294967296=x.toNat:=Nat.mod_eq_of_lt x.isLt
theorem r_xor (a b:BitVec 32):bits .xor .u32 (V a) (V b)=V (a ^^^ b):=by
 show IntKind.u32.wrap (((BitVec.ofInt 32 (a.toNat:Int)) ^^^ (BitVec.ofInt 32 (b.toNat:Int))).toNat:Int)=_
 rw [r_ofInt,r_ofInt,r_wrap,r_mod];rfl
theorem r_and (a b:BitVec 32):bits .and .u32 (V a) (V b)=V (a &&& b):=by
 show IntKind.u32.wrap (((BitVec.ofInt 32 (a.toNat:Int)) &&& (BitVec.ofInt 32 (b.toNat:Int))).toNat:Int)=_
 rw [r_ofInt,r_ofInt,r_wrap,r_mod];rfl
theorem r_or (a b:BitVec 32):bits .or .u32 (V a) (V b)=V (a ||| b):=by
 show IntKind.u32.wrap (((BitVec.ofInt 32 (a.toNat:Int)) ||| (BitVec.ofInt 32 (b.toNat:Int))).toNat:Int)=_
 rw [r_ofInt,r_ofInt,r_wrap,r_mod];rfl
theorem r_add' (a b:BitVec 32):IntKind.u32.wrap (V a+V b)=V (a+b):=by
 unfold V
 rw [←Int.natCast_add,r_wrap,BitVec.toNat_add]
theorem r_add (a b:BitVec 32):(V a+V b) % (4294967296:Int)=V (a+b):=by
 rw [←r_add'];simp [IntKind.wrap,IntKind.bits,IntKind.signed]
theorem r_add4 (a b c d:BitVec 32):(V a+V b+V c+V d) % (4294967296:Int)=V (a+b+c+d):=by
 rw [←r_add (a+b+c) d,←r_add (a+b) c,←r_add a b];omega
theorem r_add5 (a b c d e:BitVec 32):(V a+V b+V c+V d+V e) % (4294967296:Int)=V (a+b+c+d+e):=by
 rw [←r_add (a+b+c+d) e,←r_add4 a b c d];omega
theorem u32s_one (l:List (BitVec 32)):(u32s l).toArray.all (·.oneCell')=true:=by
 simp [u32s,Value.oneCell']
theorem u8s_one (l:List (BitVec 8)):(u8s l).toArray.all (·.oneCell')=true:=by
 simp [u8s,Value.oneCell']
/-! ### the digest -/
def Kl:List (BitVec 32):=[1116352408,1899447441,3049323471,3921009573,961987163,1508970993,2453635748,2870763221,3624381080,310598401,607225278,1426881987,1925078388,2162078206,2614888103,3248222580,3835390401,4022224774,264347078,604807628,770255983,1249150122,1555081692,1996064986,2554220882,2821834349,2952996808,3210313671,3336571891,3584528711,113926993,338241895,666307205,773529912,1294757372,1396182291,1695183700,1986661051,2177026350,2456956037,2730485921,2820302411,3259730800,3345764771,3516065817,3600352804,4094571909,275423344,430227734,506948616,659060556,883997877,958139571,1322822218,1537002063,1747873779,1955562222,2024104815,2227730452,2361852424,2428436474,2756734187,3204031479,3329325298]
def IVl:List (BitVec 32):=[1779033703,3144134277,1013904242,2773480762,1359893119,2600822924,528734635,1541459225]
def s0 (x:BitVec 32):BitVec 32:=x.rotateRight 7 ^^^ x.rotateRight 18 ^^^ (x >>> 3)
def s1 (x:BitVec 32):BitVec 32:=x.rotateRight 17 ^^^ x.rotateRight 19 ^^^ (x >>> 10)
def word (b:List (BitVec 8)) (t:Nat):BitVec 32:=
 (b.getD (4*t) 0).setWidth 32 <<< 24 ||| (b.getD (4*t+1) 0).setWidth 32 <<< 16 ||| (b.getD (4*t+2) 0).setWidth 32 <<< 8 ||| (b.getD (4*t+3) 0).setWidth 32
def wds (b:List (BitVec 8)):Nat→List (BitVec 32)
 | 0=>[]
 | t+1=>wds b t++[word b t]
def nextW (l:List (BitVec 32)):BitVec 32:=
 s1 (l.getD (l.length - 2) 0)+l.getD (l.length - 7) 0+s0 (l.getD (l.length - 15) 0)+l.getD (l.length - 16) 0
def ext (l:List (BitVec 32)):Nat→List (BitVec 32)
 | 0=>l
 | k+1=>ext l k++[nextW (ext l k)]
def sched (b:List (BitVec 8)):List (BitVec 32):=ext (wds b 16) 48
structure Reg where
 a:BitVec 32
 b:BitVec 32
 c:BitVec 32
 d:BitVec 32
 e:BitVec 32
 f:BitVec 32
 g:BitVec 32
 h:BitVec 32
def tee (k w:BitVec 32) (r:Reg):BitVec 32:=
 r.h+(r.e.rotateRight 6 ^^^ r.e.rotateRight 11 ^^^ r.e.rotateRight 25)+(r.e &&& r.f ^^^ ~~~r.e &&& r.g)+k+w
def you (r:Reg):BitVec 32:=
 (r.a.rotateRight 2 ^^^ r.a.rotateRight 13 ^^^ r.a.rotateRight 22)+(r.a &&& r.b ^^^ r.a &&& r.c ^^^ r.b &&& r.c)
def rnd (k w:BitVec 32) (r:Reg):Reg:=⟨tee k w r+you r,r.a,r.b,r.c,r.d+tee k w r,r.e,r.f,r.g⟩
def rnds (w:List (BitVec 32)) (r:Reg):Nat→Reg
 | 0=>r
 | t+1=>rnd (Kl.getD t 0) (w.getD t 0) (rnds w r t)
def Reg.list (r:Reg):List (BitVec 32):=[r.a,r.b,r.c,r.d,r.e,r.f,r.g,r.h]
def regOf (l:List (BitVec 32)):Reg:=⟨l.getD 0 0,l.getD 1 0,l.getD 2 0,l.getD 3 0,l.getD 4 0,l.getD 5 0,l.getD 6 0,l.getD 7 0⟩
def adds (l m:List (BitVec 32)):List (BitVec 32):=List.zipWith (·+·) l m
def comp (s:List (BitVec 32)) (b:List (BitVec 8)):List (BitVec 32):=adds (rnds (sched b) (regOf s) 64).list s
theorem word_val (b0 b1 b2 b3:BitVec 8) :
 bits .or .u32 (bits .or .u32 (bits .or .u32 ((b0.toNat:Int)*16777216) ((b1.toNat:Int)*65536)) ((b2.toNat:Int)*256)) (b3.toNat:Int) =
  V (b0.setWidth 32 <<< 24 ||| b1.setWidth 32 <<< 16 ||| b2.setWidth 32 <<< 8 ||| b3.setWidth 32):=by
 have l0:=b0.isLt
 have l1:=b1.isLt
 have l2:=b2.isLt
 have l3:=b3.isLt
 have e0:(b0.toNat:Int)*(16777216:Int)=V (b0.setWidth 32 <<< 24):=by
  unfold V;rw [BitVec.toNat_shiftLeft,BitVec.toNat_setWidth,Nat.shiftLeft_eq];omega
 have e1:(b1.toNat:Int)*(65536:Int)=V (b1.setWidth 32 <<< 16):=by
  unfold V;rw [BitVec.toNat_shiftLeft,BitVec.toNat_setWidth,Nat.shiftLeft_eq];omega
 have e2:(b2.toNat:Int)*(256:Int)=V (b2.setWidth 32 <<< 8):=by
  unfold V;rw [BitVec.toNat_shiftLeft,BitVec.toNat_setWidth,Nat.shiftLeft_eq];omega
 have e3:(b3.toNat:Int)=V (b3.setWidth 32):=by
  unfold V;rw [BitVec.toNat_setWidth];omega
 rw [e0,e1,e2,e3,r_or,r_or,r_or]
theorem r_not (x:BitVec 32):bits .xor .u32 (if IntKind.u32.signed=true then -1 else IntKind.u32.max) (V x)=V (~~~x):=by
 show IntKind.u32.wrap (((BitVec.ofInt 32 (if IntKind.u32.signed=true then -1 else IntKind.u32.max)) ^^^ (BitVec.ofInt 32 (x.toNat:Int))).toNat:Int)=_
 have e:(BitVec.ofInt 32 (if IntKind.u32.signed=true then -1 else IntKind.u32.max))=BitVec.allOnes 32:=by decide
 rw [e,r_ofInt,r_wrap,r_mod,BitVec.xor_comm,BitVec.xor_allOnes];rfl
theorem tee_val (k m:BitVec 32) (r:Reg) :
 (V r.h+bits BinOp.xor IntKind.u32 (bits BinOp.xor IntKind.u32 (V (r.e.rotateRight 6)) (V (r.e.rotateRight 11))) (V (r.e.rotateRight 25)) +
  bits BinOp.xor IntKind.u32 (bits BinOp.and IntKind.u32 (V r.e) (V r.f)) (bits BinOp.and IntKind.u32 (bits BinOp.xor IntKind.u32 (if IntKind.u32.signed=true then -1 else IntKind.u32.max) (V r.e)) (V r.g)) +
  V k+V m) % (4294967296:Int)=V (tee k m r):=by
 rw [r_not,r_xor,r_xor,r_and,r_and,r_xor,r_add5];rfl
theorem you_val (r:Reg) :
 (bits BinOp.xor IntKind.u32 (bits BinOp.xor IntKind.u32 (V (r.a.rotateRight 2)) (V (r.a.rotateRight 13))) (V (r.a.rotateRight 22)) +
  bits BinOp.xor IntKind.u32 (bits BinOp.xor IntKind.u32 (bits BinOp.and IntKind.u32 (V r.a) (V r.b)) (bits BinOp.and IntKind.u32 (V r.a) (V r.c))) (bits BinOp.and IntKind.u32 (V r.b) (V r.c))) % (4294967296:Int)=V (you r):=by
 rw [r_xor,r_xor,r_and,r_and,r_and,r_xor,r_xor,r_add];rfl
def addTo (l m:List (BitVec 32)) (i:Nat):List (BitVec 32):=(adds l m).take i++l.drop i
theorem addTo_length (l m:List (BitVec 32)) (h:l.length=m.length) (i:Nat):(addTo l m i).length=l.length:=by
 simp [addTo,adds,h];omega
theorem addTo_get (l m:List (BitVec 32)) (h:l.length=m.length) (i:Nat) (hi:i < l.length):(addTo l m i).getD i 0=l.getD i 0:=by
 unfold addTo
 rw [List.getD_eq_getElem?_getD,List.getD_eq_getElem?_getD,List.getElem?_append_right (by simp [adds,←h];omega)]
 simp [adds,←h,Nat.min_eq_left (Nat.le_of_lt hi)]
theorem addTo_set (l m:List (BitVec 32)) (h:l.length=m.length) (i:Nat) (hi:i < l.length):(addTo l m i).set i (l.getD i 0+m.getD i 0)=addTo l m (i+1):=by
 have hi':i < m.length:=by omega
 have e1:(adds l m).length=l.length:=by simp [adds,h]
 have e2:l.drop i=l.getD i 0::l.drop (i+1):=by
  rw [List.drop_eq_getElem_cons hi];simp [hi]
 have e3:(adds l m).take (i+1)=(adds l m).take i++[l.getD i 0+m.getD i 0]:=by
  rw [List.take_succ_eq_append_getElem (by omega)]
  simp [adds,hi,hi']
 unfold addTo
 rw [e3,e2,List.set_append_right _ _ (by simp;omega)]
 simp [e1,Nat.min_eq_left (Nat.le_of_lt hi)]
theorem addTo_all (l m:List (BitVec 32)) (h:l.length=m.length):addTo l m l.length=adds l m:=by
 have e1:(adds l m).length=l.length:=by simp [adds,h]
 unfold addTo
 rw [List.take_of_length_le (by omega),List.drop_length,List.append_nil]
theorem u32s_set (l:List (BitVec 32)) (i:Nat) (x:BitVec 32):(u32s l).toArray.setIfInBounds i (.int .u32 (V x))=(u32s (l.set i x)).toArray:=by
 simp [u32s,List.map_set]
theorem wds_length (b:List (BitVec 8)):∀ t,(wds b t).length=t
 | 0=>rfl
 | t+1=>by simp [wds,wds_length b t]
theorem ext_length (l:List (BitVec 32)):∀ k,(ext l k).length=l.length+k
 | 0=>rfl
 | k+1=>by simp [ext,ext_length l k];omega
theorem shr_val (x:BitVec 32) (k:Nat) (q:Int) (hq:q=((2 ^ k:Nat):Int)):V x / q=V (x >>> k):=by
 unfold V
 rw [BitVec.toNat_ushiftRight,Nat.shiftRight_eq_div_pow,Int.natCast_ediv,hq]
theorem shr10 (x:BitVec 32):V x / (1024:Int)=V (x >>> 10):=shr_val x 10 _ rfl
theorem shr3 (x:BitVec 32):V x / (8:Int)=V (x >>> 3):=shr_val x 3 _ rfl
theorem rotr_rotl (x:BitVec 32) (r:Nat) (h:r < 32):x.rotateLeft ((32 - r) % 32)=x.rotateRight r:=by
 rw [BitVec.rotateLeft_def,BitVec.rotateRight_def]
 by_cases h0:r=0
 ·subst h0
  have e:x >>> 32=0:=by
   apply BitVec.eq_of_toNat_eq
   rw [BitVec.toNat_ushiftRight,Nat.shiftRight_eq_div_pow,Nat.div_eq_of_lt x.isLt];rfl
  simp [e]
 ·have e:(32 - r) % 32=32 - r:=Nat.mod_eq_of_lt (by omega)
  rw [e,e,Nat.mod_eq_of_lt h,BitVec.or_comm]
  congr 2;omega
theorem and31 (m:Int):bits BinOp.and IntKind.u64 (IntKind.u64.wrap m) 31=(((m % 32).toNat:Nat):Int):=by
 have e:IntKind.u64.wrap m=(((m % 18446744073709551616).toNat:Nat):Int):=by
  have h:IntKind.u64.wrap m=m % 18446744073709551616:=by simp [IntKind.wrap,IntKind.bits,IntKind.signed]
  rw [h];omega
 have h1:(m % 18446744073709551616).toNat < 18446744073709551616:=by omega
 rw [e]
 show IntKind.u64.wrap (((BitVec.ofInt 64 (((m % 18446744073709551616).toNat:Nat):Int)) &&& (BitVec.ofInt 64 31)).toNat:Int)=_
 have e2:(BitVec.ofInt 64 31)=BitVec.ofNat 64 31:=by decide
 rw [BitVec.ofInt_natCast,e2,BitVec.toNat_and,BitVec.toNat_ofNat,BitVec.toNat_ofNat]
 have e3:(m % 18446744073709551616).toNat % 2 ^ 64=(m % 18446744073709551616).toNat:=Nat.mod_eq_of_lt h1
 have e4:31 % 2 ^ 64=2 ^ 5 - 1:=by decide
 rw [e3,e4,Nat.and_two_pow_sub_one_eq_mod]
 have e5:(m % 18446744073709551616).toNat % 2 ^ 5=(m % 32).toNat:=by omega
 rw [e5]
 have:(m % 32).toNat < 32:=by omega
 simp [IntKind.wrap,IntKind.bits,IntKind.signed];omega
end Sha
end Go.Proofs.YtplmfmpbkjnbaaaGreatDoor
namespace Go.Proofs.YtplmfmpbkjnbaaaGreatDoor
namespace Sha
open Go.RowKit
theorem u8s_set (l:List (BitVec 8)) (i:Nat) (x:BitVec 8):(u8s l).toArray.setIfInBounds i (.int .u8 (x.toNat:Int))=(u8s (l.set i x)).toArray:=by
 simp [u8s,List.map_set]
def wb (x:BitVec 32) (k:Nat):BitVec 8:=(x >>> k).setWidth 8
theorem wb_val (x:BitVec 32) (k:Nat) (q:Int) (hq:q=((2 ^ k:Nat):Int)):(V x / q % (256:Int))=((wb x k).toNat:Int):=by
 unfold wb V
 rw [BitVec.toNat_setWidth,BitVec.toNat_ushiftRight,Nat.shiftRight_eq_div_pow,hq,←Int.natCast_ediv];rfl
theorem wb24 (x:BitVec 32):(V x / (16777216:Int) % (256:Int))=((wb x 24).toNat:Int):=wb_val x 24 _ rfl
theorem wb16 (x:BitVec 32):(V x / (65536:Int) % (256:Int))=((wb x 16).toNat:Int):=wb_val x 16 _ rfl
theorem wb8 (x:BitVec 32):(V x / (256:Int) % (256:Int))=((wb x 8).toNat:Int):=wb_val x 8 _ rfl
theorem wb0 (x:BitVec 32):(V x % (256:Int))=((wb x 0).toNat:Int):=by
 have:=wb_val x 0 1 rfl
 simpa using this
theorem b_wrap (n:Nat):IntKind.u8.wrap (n:Int)=((n % 256:Nat):Int):=by
 simp [IntKind.wrap,IntKind.bits,IntKind.signed]
theorem b_ofInt (x:BitVec 8):BitVec.ofInt 8 (x.toNat:Int)=x:=by rw [BitVec.ofInt_natCast];simp
theorem b_mod (x:BitVec 8):x.toNat % 256=x.toNat:=Nat.mod_eq_of_lt x.isLt
theorem b_xor (a b:BitVec 8):bits .xor .u8 (a.toNat:Int) (b.toNat:Int)=((a ^^^ b).toNat:Int):=by
 show IntKind.u8.wrap (((BitVec.ofInt 8 (a.toNat:Int)) ^^^ (BitVec.ofInt 8 (b.toNat:Int))).toNat:Int)=_
 rw [b_ofInt,b_ofInt,b_wrap,b_mod]
def B8 (x:BitVec 8):Int:=x.toNat
theorem B8_lo (x:BitVec 8):0≤B8 x:=Int.natCast_nonneg _
theorem B8_hi (x:BitVec 8):B8 x≤255:=by unfold B8;have:=x.isLt;omega
theorem B8_xor (a b:BitVec 8):bits .xor .u8 (B8 a) (B8 b)=B8 (a ^^^ b):=b_xor a b
theorem u8s_snoc (l:List (BitVec 8)) (x:BitVec 8):u8s (l++[x])=u8s l++[.int .u8 (x.toNat:Int)]:=by simp [u8s]
theorem u8s_cells (l:List (BitVec 8)):∀ u∈u8s l,u.oneCell'=true:=by
 intro u hu
 obtain ⟨x,_,rfl⟩:=List.mem_map.1 hu
 rfl
theorem u32s_cells (l:List (BitVec 32)):∀ u∈u32s l,u.oneCell'=true:=by
 intro u hu
 obtain ⟨x,_,rfl⟩:=List.mem_map.1 hu
 rfl
theorem adds_length (l m:List (BitVec 32)) (h:l.length=m.length):(adds l m).length=l.length:=by simp [adds,h]
theorem adds_getD (l m:List (BitVec 32)) (h:l.length=m.length) (i:Nat) (hi:i < l.length):(adds l m).getD i 0=l.getD i 0+m.getD i 0:=by
 have hm:i < m.length:=by omega
 simp [adds,List.getD_eq_getElem?_getD,List.getElem?_zipWith,hi,hm]
theorem not_sub (x:BitVec 32):(4294967295:Int) - V x=V (~~~x):=by
 have:=x.isLt
 unfold V
 rw [BitVec.toNat_not]
 omega
theorem i64_id (r:Int) (h0:-9223372036854775808≤r) (h1:r≤9223372036854775807):IntKind.i64.wrap r=r:=by
 simp [IntKind.wrap,IntKind.bits,IntKind.signed];omega
theorem u32_id (r:Int) (h0:0≤r) (h1:r < 4294967296):IntKind.u32.wrap r=r:=by
 simp [IntKind.wrap,IntKind.bits,IntKind.signed];omega
section
variable {P:Program}
theorem o_add (t t2:TypeId) (x y:Operand) (a b:BitVec 32) (w:World):(do eqGuard .add t x y (.int .u32 (V a)) (.int .u32 (V b));binOp .add t2 (.int .u32 (V a)) (.int .u32 (V b)):Sem Value).run P w=.ok (.int .u32 (V (a+b))) w:=by
 rw [←r_add']
 go_simp
theorem o_and (t t2:TypeId) (x y:Operand) (a b:BitVec 32) (w:World):(do eqGuard .and t x y (.int .u32 (V a)) (.int .u32 (V b));binOp .and t2 (.int .u32 (V a)) (.int .u32 (V b)):Sem Value).run P w=.ok (.int .u32 (V (a &&& b))) w:=by
 rw [←r_and]
 go_simp
theorem o_xor (t t2:TypeId) (x y:Operand) (a b:BitVec 32) (w:World):(do eqGuard .xor t x y (.int .u32 (V a)) (.int .u32 (V b));binOp .xor t2 (.int .u32 (V a)) (.int .u32 (V b)):Sem Value).run P w=.ok (.int .u32 (V (a ^^^ b))) w:=by
 rw [←r_xor]
 go_simp
theorem o_not (t t2:TypeId) (x y:Operand) (a:BitVec 32) (w:World):(do eqGuard .sub t x y (.int .u32 4294967295) (.int .u32 (V a));binOp .sub t2 (.int .u32 4294967295) (.int .u32 (V a)):Sem Value).run P w=.ok (.int .u32 (V (~~~a))) w:=by
 have h0:=V_lo a
 have h1:=V_hi a
 rw [←not_sub,←u32_id (4294967295 - V a) (by omega) (by omega)]
 go_simp
theorem o_iadd (t t2:TypeId) (x y:Operand) (a b r:Int) (h:a+b=r) (h0:-9223372036854775808≤r) (h1:r≤9223372036854775807) (w:World):(do eqGuard .add t x y (.int .i64 a) (.int .i64 b);binOp .add t2 (.int .i64 a) (.int .i64 b):Sem Value).run P w=.ok (.int .i64 r) w:=by
 rw [←i64_id r h0 h1,←h]
 go_simp
theorem o_uadd (t t2:TypeId) (x y:Operand) (a b r:Int) (h:a+b=r) (h0:0≤r) (h1:r < 4294967296) (w:World):(do eqGuard .add t x y (.int .u32 a) (.int .u32 b);binOp .add t2 (.int .u32 a) (.int .u32 b):Sem Value).run P w=.ok (.int .u32 r) w:=by
 rw [←u32_id r h0 h1,←h]
 go_simp
theorem o_isub (t t2:TypeId) (x y:Operand) (a b r:Int) (h:a - b=r) (h0:-9223372036854775808≤r) (h1:r≤9223372036854775807) (w:World):(do eqGuard .sub t x y (.int .i64 a) (.int .i64 b);binOp .sub t2 (.int .i64 a) (.int .i64 b):Sem Value).run P w=.ok (.int .i64 r) w:=by
 rw [←i64_id r h0 h1,←h]
 go_simp
theorem o_imul (t t2:TypeId) (x y:Operand) (a b r:Int) (h:a*b=r) (h0:-9223372036854775808≤r) (h1:r≤9223372036854775807) (w:World):(do eqGuard .mul t x y (.int .i64 a) (.int .i64 b);binOp .mul t2 (.int .i64 a) (.int .i64 b):Sem Value).run P w=.ok (.int .i64 r) w:=by
 rw [←i64_id r h0 h1,←h]
 go_simp
theorem o_umul (t t2:TypeId) (x y:Operand) (a b r:Int) (h:a*b=r) (h0:0≤r) (h1:r < 4294967296) (w:World):(do eqGuard .mul t x y (.int .u32 a) (.int .u32 b);binOp .mul t2 (.int .u32 a) (.int .u32 b):Sem Value).run P w=.ok (.int .u32 r) w:=by
 rw [←u32_id r h0 h1,←h]
 go_simp
end
theorem o_xorb {P:Program} (t t2:TypeId) (x y:Operand) (a b:BitVec 8) (w:World):(do eqGuard .xor t x y (.int .u8 (B8 a)) (.int .u8 (B8 b));binOp .xor t2 (.int .u8 (B8 a)) (.int .u8 (B8 b)):Sem Value).run P w=.ok (.int .u8 (B8 (a ^^^ b))) w:=by
 rw [←B8_xor]
 go_simp
end Sha
end Go.Proofs.YtplmfmpbkjnbaaaGreatDoor
namespace Go.Proofs.YtplmfmpbkjnbaaaGreatDoor
abbrev Lb8:=List (BitVec 8)
theorem zr {α:Sort _} {a b:α} (h:a=b:=by rfl):a=b:=h
theorem zh {p:Prop} (h:p):Go.RowKit.Hid p:=h
namespace Mem
open Go.RowKit
def At (w:World) (b:Nat) (C:Array Value) (t:TypeId):Prop:=w.heap[b]?=some (.cells C t (0,0))
theorem At.cell {w:World} {b:Nat} {C:Array Value} {t:TypeId} (h:At w b C t) (i:Nat):w.cell? ⟨b,i,none⟩=C[i]?:=cell_of_row w b i C t (0,0) h
theorem At.free {w:World} {b:Nat} {C:Array Value} {t:TypeId} (h:At w b C t) (i:Nat):w.frozen? ⟨b,i,none⟩=false:=frozen_of_row w b i C t h
theorem At.lt {w:World} {b:Nat} {C:Array Value} {t:TypeId} (h:At w b C t):b < w.heap.size:=by
 unfold At at h
 exact (Array.getElem?_eq_some_iff.1 h).1
theorem At.below {w w':World} {B b:Nat} {C:Array Value} {t:TypeId} (h:At w b C t) (hb:Below B w w') (hlt:b < B):At w' b C t:=by
 unfold At at *;rw [hb.block b hlt];exact h
theorem At.drew {w:World} {b:Nat} {C:Array Value} {t:TypeId} (h:At w b C t):At w.drew b C t:=h
theorem At.set {w:World} {b:Nat} {C:Array Value} {t:TypeId} (h:At w b C t) (i:Nat) (v:Value):At (w.setCell ⟨b,i,none⟩ v) b (C.setIfInBounds i v) t:=heap_setCell_same w b i C t v h
theorem At.set_other {w:World} {b:Nat} {C:Array Value} {t:TypeId} (h:At w b C t) (a:Addr) (v:Value) (hne:b≠a.block):At (w.setCell a v) b C t:=by
 unfold At;rw [heap_setCell_other w a b v hne];exact h
theorem At.alloc {w:World} {b:Nat} {C:Array Value} {t:TypeId} (h:At w b C t) (o:Obj):At (w.alloc o) b C t:=by
 have hl:=h.lt
 unfold At;rw [Below.heap_alloc w o b hl];exact h
theorem at_new (w:World) (C:Array Value) (t:TypeId):At (w.alloc (.cells C t)) w.heap.size C t:=heap_alloc_new w _
theorem At.row {w:World} {b:Nat} {C:Array Value} {t:TypeId} (h:At w b C t) (D:Array Value):At (w.setRow b D) b D t:=setRow_heap w b C D t _ h
theorem At.row_other {w:World} {b g:Nat} {C:Array Value} {t:TypeId} (h:At w b C t) (D:Array Value) (hne:b≠g):At (w.setRow g D) b C t:=by
 unfold At;rw [setRow_other w g b D hne];exact h
theorem below_row {B:Nat} {a w:World} (h:Below B a w) {g:Nat} (hg:B≤g) (D:Array Value):Below B a (w.setRow g D):=
 h.trans ⟨rfl,rfl,rfl,by simp,fun k hk=>setRow_other w g k D (by omega)⟩
theorem At.range {w:World} {b:Nat} {C:Array Value} {t:TypeId} (h:At w b C t) (o n:Nat):w.rangeAt b o (C.extract o (o+n)).toList:=World.rangeAt_of_block h o n
def splice (C:Array Value) (o:Nat) (D:List Value):Array Value:=(C.toList.take o++D++C.toList.drop (o+D.length)).toArray
theorem setCells_row {t:TypeId}:∀ (D:List Value) (o:Nat) (w:World) (b:Nat) (C:Array Value),At w b C t→o+D.length≤C.size→w.setCells b o D=w.setRow b (splice C o D)
 | [],o,w,b,C,h,_=>by
  have e:splice C o []=C:=by simp [splice]
  rw [e,World.setCells]
  have hlt:=h.lt
  have hv:w.heap[b]=.cells C t (0,0):=(Array.getElem?_eq_some_iff.1 h).2
  unfold World.setRow
  cases w with
  | mk heap tape drawn os output=>
   congr 1
   apply Array.ext
   ·simp
   ·intro k h1 h2
    simp only [Array.getElem_modify]
    split
    ·rename_i hk;subst hk;simp at hv;simp [hv]
    ·rfl
 | v::r,o,w,b,C,h,hl=>by
  have hs:(C.setIfInBounds o v).size=C.size:=by simp
  rw [World.setCells,setCells_row r (o+1) _ b _ (h.set o v) (by simp at hl ⊢;omega),setCell_eq_setRow w b o C t (0,0) v h,setRow_setRow]
  congr 1
  simp only [List.length_cons] at hl
  unfold splice
  congr 1
  apply List.ext_getElem?
  intro k
  simp only [Array.toList_setIfInBounds,List.getElem?_append,List.length_append,List.length_take,List.length_set,Array.length_toList,List.length_cons,List.getElem?_drop,List.drop_set]
  have e1:min (o+1) C.size=o+1:=by omega
  have e2:min o C.size=o:=by omega
  rw [e1,e2]
  by_cases h1:k < o
  ·simp [h1,show k < o+1 by omega,show k < o+1+r.length by omega,show k < o+(r.length+1) by omega,show o≠k by omega]
  ·by_cases h2:k=o
   ·subst h2
    simp [show k < C.size by omega]
    omega
   ·by_cases h3:k < o+1+r.length
    ·simp [h1,h3,show ¬ k < o+1 by omega,show k < o+(r.length+1) by omega,show k - o=(k - (o+1))+1 by omega]
    ·simp [h3,show ¬ k < o+(r.length+1) by omega,show o < o+1+r.length by omega]
     congr 1;omega
section
variable {P:Program}
theorem wpList_load_at {ops:Array Oper} {rest:List Oper} {op:Oper} {a:Act} {w:World} {Q:Exit→Act→World→Prop} (hgd:op.guard=none) (ty:TypeId) (x:Operand) (ho:op.op=.load ty x)
 (b o n:Nat) (hx:a.eval x=.pointer (some ⟨b,o,none⟩)) (d:TypeDesc) (hu:P.underlying ty=some d) (hd:d.isRow=true) (hi:(P.info? ty).map (·.size)=some n)
 (C:Array Value) (t:TypeId) (hC:At w b C t) (hn:o+n≤C.size)
 (h:wpList P ops Q rest (a.put op.dst (.agg (C.extract o (o+n)))) w):wpList P ops Q (op::rest) a w:=by
 refine wpList_load_mid hgd ty x ho b o hx _ d (hC.range o n) hu hd ?_ ?_
 ·rw [hi];simp;omega
 ·rw [Array.toArray_toList];exact h
theorem wpList_load_all {ops:Array Oper} {rest:List Oper} {op:Oper} {a:Act} {w:World} {Q:Exit→Act→World→Prop} (hgd:op.guard=none) (ty:TypeId) (x:Operand) (ho:op.op=.load ty x)
 (b:Nat) (hx:a.eval x=.pointer (some ⟨b,0,none⟩)) (d:TypeDesc) (hu:P.underlying ty=some d) (hd:d.isRow=true)
 (C:Array Value) (t:TypeId) (hC:At w b C t) (hi:(P.info? ty).map (·.size)=some C.size)
 (h:wpList P ops Q rest (a.put op.dst (.agg C)) w):wpList P ops Q (op::rest) a w:=by
 refine wpList_load_at hgd ty x ho b 0 C.size hx d hu hd hi C t hC (by omega) ?_
 simpa using h
theorem wpList_store_at {ops:Array Oper} {rest:List Oper} {op:Oper} {a:Act} {w:World} {Q:Exit→Act→World→Prop} (hgd:op.guard=none) (ty:TypeId) (x y:Operand) (ho:op.op=.store ty x y) (hdst:op.dst=none)
 (b o:Nat) (D:Array Value) (hx:a.eval x=.pointer (some ⟨b,o,none⟩)) (hy:a.eval y=.agg D) (hi:(P.info? ty).map (·.size)=some D.size)
 (C:Array Value) (t:TypeId) (hC:At w b C t) (hn:o+D.size≤C.size) (h1:D.all (·.oneCell')=true)
 (h:wpList P ops Q rest a (w.setRow b (splice C o D.toList))):wpList P ops Q (op::rest) a w:=by
 have hput:a.put op.dst undef=a:=by rw [hdst];rfl
 refine wpList_store_mid hgd ty x y ho b o D hx hy (fun j hj=>?_) hi h1 ?_
 ·rw [hC.cell,hC.free]
  exact ⟨by simp;omega,rfl⟩
 ·rw [setCells_row _ _ _ _ _ hC (by simpa using hn),hput];exact h
theorem splice_all (C D:Array Value) (h:D.size=C.size):splice C 0 D.toList=D:=by
 have e:List.drop C.size C.toList=[]:=List.drop_of_length_le (by simp)
 simp [splice,h,e]
theorem wpList_store_all {ops:Array Oper} {rest:List Oper} {op:Oper} {a:Act} {w:World} {Q:Exit→Act→World→Prop} (hgd:op.guard=none) (ty:TypeId) (x y:Operand) (ho:op.op=.store ty x y) (hdst:op.dst=none)
 (b:Nat) (D:Array Value) (hx:a.eval x=.pointer (some ⟨b,0,none⟩)) (hy:a.eval y=.agg D) (hi:(P.info? ty).map (·.size)=some D.size)
 (C:Array Value) (t:TypeId) (hC:At w b C t) (hn:D.size=C.size) (h1:D.all (·.oneCell')=true)
 (h:wpList P ops Q rest a (w.setRow b D)):wpList P ops Q (op::rest) a w:=by
 refine wpList_store_at hgd ty x y ho hdst b 0 D hx hy hi C t hC (by omega) h1 ?_
 rw [splice_all C D hn];exact h
end
theorem wpList_index_row {P:Program} {ops:Array Oper} {rest:List Oper} {op:Oper} {a:Act} {w:World} {Q:Exit→Act→World→Prop} (hgd:op.guard=none) (ty:TypeId) (x i:Operand) (ho:op.op=.index ty x i)
 (n:Nat) (e:TypeId) (hu:P.underlying ty=some (.array n e)) (de:TypeDesc) (he:P.underlying e=some de) (hde:de.isRow=false) (hs:(P.info? e).map (·.size)=some 1)
 (C:Array Value) (k:Nat) (hx:a.eval x=.agg C) (hi:a.eval i=.int .i64 (k:Int)) (hk:k < n) (v:Value) (hv:C[k]?=some v)
 (h:wpList P ops Q rest (a.put op.dst v) w):wpList P ops Q (op::rest) a w:=by
 refine wpList_plain hgd fun K hK=>?_
 have hagg:(isAgg e).run P w=.ok false w:=by
  unfold isAgg
  rw [Sem.run_bind,run_underlying he w]
  cases de <;> simp_all
 cases hq:P.info? e with
 | none=>simp [hq] at hs
 | some q=>
  have hs1:q.size=1:=by simpa [hq] using hs
  have hrun:(Instr.index ty (.agg C) (.int .i64 (k:Int))).run P w=.ok v w:=by
   simp [Instr.index,asIntOf,Sem.run_bind,run_underlying hu,sizeOf,typeInfo,hq,hs1,hk,part,hagg,hv]
  unfold Oper.wp execOp
  simp only [ho,hx,hi,Sem.run_bind,hrun,Result.andThen_ok,Sem.run_pure]
  exact hK _ _ h
theorem wpList_store_new {P:Program} {ops:Array Oper} {rest:List Oper} {op:Oper} {a:Act} {w:World} {Q:Exit→Act→World→Prop} (hgd:op.guard=none) (ty:TypeId) (x y:Operand) (ho:op.op=.store ty x y) (hdst:op.dst=none)
 (D C:Array Value) (t:TypeId) (hx:a.eval x=.pointer (some ⟨w.heap.size,0,none⟩)) (hy:a.eval y=.agg D) (hi:(P.info? ty).map (·.size)=some D.size)
 (hn:D.size=C.size) (h1:D.all (·.oneCell')=true)
 (h:wpList P ops Q rest a (w.alloc (.cells D t))):wpList P ops Q (op::rest) a (w.alloc (.cells C t)):=by
 refine wpList_store_all hgd ty x y ho hdst w.heap.size D hx hy hi C t (at_new w C t) hn h1 ?_
 rw [World.setRow_alloc_new];exact h
section
variable {P:Program}
theorem wpList_load_is {ops:Array Oper} {rest:List Oper} {op:Oper} {a:Act} {w:World} {Q:Exit→Act→World→Prop} (hgd:op.guard=none) (ty:TypeId) (x:Operand) (ho:op.op=.load ty x)
 (b o n:Nat) (hx:a.eval x=.pointer (some ⟨b,o,none⟩)) (d:TypeDesc) (hu:P.underlying ty=some d) (hd:d.isRow=true) (hi:(P.info? ty).map (·.size)=some n)
 (C:Array Value) (t:TypeId) (hC:At w b C t) (hn:o+n≤C.size) (R:Array Value) (hR:C.extract o (o+n)=R)
 (h:wpList P ops Q rest (a.put op.dst (.agg R)) w):wpList P ops Q (op::rest) a w:=
 wpList_load_at hgd ty x ho b o n hx d hu hd hi C t hC hn (by rw [hR];exact h)
theorem wpList_store_is {ops:Array Oper} {rest:List Oper} {op:Oper} {a:Act} {w:World} {Q:Exit→Act→World→Prop} (hgd:op.guard=none) (ty:TypeId) (x y:Operand) (ho:op.op=.store ty x y) (hdst:op.dst=none)
 (b o:Nat) (D:Array Value) (hx:a.eval x=.pointer (some ⟨b,o,none⟩)) (hy:a.eval y=.agg D) (hi:(P.info? ty).map (·.size)=some D.size)
 (C:Array Value) (t:TypeId) (hC:At w b C t) (hn:o+D.size≤C.size) (h1:D.all (·.oneCell')=true) (E:Array Value) (hE:splice C o D.toList=E)
 (h:∀ w',At w' b E t→w'.heap.size=w.heap.size→(∀ k,k≠b→w'.heap[k]?=w.heap[k]?)→(∀ B a,Below B a w→B≤b→Below B a w')→wpList P ops Q rest a w'):wpList P ops Q (op::rest) a w:=by
 refine wpList_store_at hgd ty x y ho hdst b o D hx hy hi C t hC hn h1 ?_
 rw [hE]
 exact h _ (hC.row E) (by simp) (fun k hk=>setRow_other w b k E hk) (fun B a hb hB=>below_row hb hB E)
theorem wpList_copy_at {ops:Array Oper} {rest:List Oper} {op:Oper} {a:Act} {w:World} {Q:Exit→Act→World→Prop} (hgd:op.guard=none) (x y:Operand) (dT sT:TypeId)
 (ho:op.op=.call { callee:=.builtin .copy,args:=#[x,y],argTypes:=#[dT,sT] }) (elem:TypeId) (hu:P.underlying dT=some (.slice elem)) (hs:(P.info? elem).map (·.size)=some 1)
 (b o dLen dCap:Nat) (sa:Addr) (sLen sCap:Nat) (hx:a.eval x=.slice (some ⟨b,o,none⟩) dLen dCap) (hy:a.eval y=.slice (some sa) sLen sCap)
 (cs:List Value) (hn:cs.length=Nat.min sLen dLen) (hsrc:∀ j v,cs[j]?=some v→w.cell? (sa.add j)=some v) (h1:∀ v∈cs,v.oneCell'=true)
 (C:Array Value) (t:TypeId) (hC:At w b C t) (hfit:o+cs.length≤C.size) (E:Array Value) (hE:splice C o cs=E) (kk:Nat) (hkk:cs.length=kk)
 (h:∀ w',At w' b E t→w'.heap.size=w.heap.size→(∀ k,k≠b→w'.heap[k]?=w.heap[k]?)→(∀ B a,Below B a w→B≤b→Below B a w')→wpList P ops Q rest (a.put op.dst (.int .i64 (kk:Int))) w'):wpList P ops Q (op::rest) a w:=by
 refine wpList_copy_own hgd x y dT sT ho elem hu hs b o dLen dCap sa sLen sCap hx hy C t hC cs hn hsrc hfit h1 ?_
 have e:(C.toList.take o++(cs++C.toList.drop (o+cs.length))).toArray=E:=by rw [←hE,splice,List.append_assoc]
 rw [e,hkk]
 exact h _ (hC.row E) (by simp) (fun k hk=>setRow_other w b k E hk) (fun B a hb hB=>below_row hb hB E)
theorem wpList_slice_low {ops:Array Oper} {rest:List Oper} {op:Oper} {a:Act} {w:World} {Q:Exit→Act→World→Prop} (hgd:op.guard=none) (ty:TypeId) (x i:Operand) (ho:op.op=.slice ty x (some i) none none)
 (elem:TypeId) (hu:P.underlying ty=some (.slice elem)) (hs:(P.info? elem).map (·.size)=some 1) (a0:Option Addr) (len cap k:Nat) (hx:a.eval x=.slice a0 len cap) (hi:a.eval i=.int .i64 (k:Int)) (hk:k≤len)
 (h:∀ a1,(∀ bb oo,a0=some ⟨bb,oo,none⟩→k < cap→a1=some ⟨bb,oo+k,none⟩)→wpList P ops Q rest (a.put op.dst (.slice a1 (len - k) (cap - k))) w):wpList P ops Q (op::rest) a w:=by
 refine wpList_plain hgd fun K hK=>?_
 cases hq:P.info? elem with
 | none=>simp [hq] at hs
 | some q=>
  have hs1:q.size=1:=by simpa [hq] using hs
  have hrun:(Instr.slice ty (.slice a0 len cap) (some (.int .i64 (k:Int))) none none).run P w=.ok (.slice (if cap=k then a0 else a0.map (·.add k)) (len - k) (cap - k)) w:=by
   simp [Instr.slice,Instr.sliceBounds,Instr.sliceBound,asIntOf,Sem.run_bind,run_underlying hu,sizeOf,typeInfo,hq,hs1,hk]
  unfold Oper.wp execOp
  have hat:(Instr.sliceAt ty (.slice a0 len cap) (some (.int .i64 (k:Int))) none none).run P w=.ok (.slice (if cap=k then a0 else a0.map (·.add k)) (len - k) (cap - k)) w:=by
   simp [Instr.sliceAt,Sem.run_bind,run_underlying hu,hrun]
  simp only [ho,hx,hi,Option.map_some,Option.map_none,Sem.run_bind,hat,Result.andThen_ok,Sem.run_pure]
  refine hK _ _ (h _ ?_)
  intro bb oo e hlt
  subst e
  rw [if_neg (by omega)]
  simp [Addr.add_mid]
theorem wpList_slice_arr {ops:Array Oper} {rest:List Oper} {op:Oper} {a:Act} {w:World} {Q:Exit→Act→World→Prop} (hgd:op.guard=none) (ty:TypeId) (x i:Operand) (ho:op.op=.slice ty x (some i) none none)
 (n:Nat) (elem:TypeId) (hu:P.underlying ty=some (.array n elem)) (hs:(P.info? elem).map (·.size)=some 1) (b o k:Nat) (hx:a.eval x=.pointer (some ⟨b,o,none⟩)) (hi:a.eval i=.int .i64 (k:Int)) (hk:k < n)
 (h:wpList P ops Q rest (a.put op.dst (.slice (some ⟨b,o+k,none⟩) (n - k) (n - k))) w):wpList P ops Q (op::rest) a w:=by
 refine wpList_plain hgd fun K hK=>?_
 cases hq:P.info? elem with
 | none=>simp [hq] at hs
 | some q=>
  have hs1:q.size=1:=by simpa [hq] using hs
  have hne:¬ n=k:=by omega
  have hle:(k:Int)≤(n:Int):=by omega
  have hat:(Instr.sliceAt ty (.pointer (some ⟨b,o,none⟩)) (some (.int .i64 (k:Int))) none none).run P w=.ok (.slice (some ⟨b,o+k,none⟩) (n - k) (n - k)) w:=by
   simp [Instr.sliceAt,Instr.sureAddr,Instr.sliceBounds,Instr.sliceBound,asIntOf,Sem.run_bind,run_underlying hu,sizeOf,typeInfo,hq,hs1,hne,Addr.add_mid]
   omega
  unfold Oper.wp execOp
  simp only [ho,hx,hi,Option.map_some,Option.map_none,Sem.run_bind,hat,Result.andThen_ok,Sem.run_pure]
  exact hK _ _ h
end
theorem Below.drewN' {B n:Nat} {a w:World} (h:Below B a w):Below B a (w.drewN n):=⟨h.os,h.tape,h.output,h.size,h.block⟩
theorem ret_row {P:Program} {fn:Func} {R:Ending→World→Prop} {tmps:Array Value} {w:World} {p:Tmp} {ty:TypeId} (h:fn.results=#[.cell p ty]) (g:Nat) (t:TypeId) (cs:Array Value) (d:TypeDesc)
 (hp:tmps.getD p undef=.pointer (some ⟨g,0,none⟩)) (hg:At w g cs t) (hu:P.underlying ty=some d) (hd:d.isRow=true) (hi:(P.info? ty).map (·.size)=some cs.size)
 (hR:R (.returned (.agg cs)) w):bodyPost P fn R .ret ⟨tmps,[]⟩ w:=
 bodyPost_ret (v:=.agg cs) (results_cell_row h tmps w g t cs (0,0) d hp hg hu (by cases d <;> first | rfl | exact hd) hi) rfl hR
end Mem
end Go.Proofs.YtplmfmpbkjnbaaaGreatDoor
namespace Go.Proofs.YtplmfmpbkjnbaaaGreatDoor
namespace Mem
open Go.RowKit
section
variable {P:Program} {ops:Array Oper} {md:Region.Mode} {Q:Exit→Act→World→Prop} {S:World→Prop}
theorem ev_tmp (l:List Value) (d:List Deferred) (t:Nat):(⟨l.toArray,d⟩:Act).eval (.tmp t)=l.getD t undef:=by simp [Act.eval]
theorem ev_zero (v:Value) (l:List Value) (d:List Deferred):(⟨(v::l).toArray,d⟩:Act).eval (.tmp 0)=v:=by simp [Act.eval]
theorem ev_none (a:Act):(#[]:Array Operand).map a.eval=#[]:=Array.map_empty
theorem ev_const (a:Act) (v:Value):a.eval (.const v)=v:=rfl
theorem ev_a {a:Act} {x:Operand} {v:Value} (h:a.eval x=v:=by first | (with_reducible exact Mem.ev_const _ _) | (with_reducible exact Mem.ev_zero _ _ _) | (with_reducible (apply Eq.trans (Mem.ev_tmp _ _ _));simp only [List.getD_cons_succ,List.getD_cons_zero] <;> rfl)):a.eval x=v:=h
theorem wpList_bin {P:Program} {ops:Array Oper} {rest:List Oper} {o:Oper} {a:Act} {w:World} {Q:Exit→Act→World→Prop} (hw:Region.wanted o (yielded ops a.tmps)=true) (op:BinOp) (t t2:TypeId) (x y:Operand) (vx vy v:Value)
 (hop:o.op=.binOp op t x y t2) (hx:a.eval x=vx) (hy:a.eval y=vy) (hv:∀ w',(do eqGuard op t x y vx vy;binOp op t vx vy:Sem Value).run P w'=.ok v w') (h:wpList P ops Q rest (a.put o.dst v) w):wpList P ops Q (o::rest) a w:=by
 unfold wpList
 rw [if_pos hw]
 left
 unfold Oper.wp
 have:(execOp a.eval o).run P w=.ok (.value v) w:=by
  have:=hv w
  simp only [execOp,hop,hx,hy]
  rw [Sem.run_bind,this];rfl
 rw [this]
 exact h
inductive Plan where
 | done
 | take (i:Nat) (r:Plan)
 | sole (i:Nat) (r:Plan)
 | two (i j:Nat) (r s:Plan)
 | three (i j k:Nat) (r s t:Plan)
 | narrow (r:Plan)   -- from here on a narrower class of worlds
def planB (md:Region.Mode) (ops:Array Oper):Plan→Nat→Array Bool→Bool
 | .done,_,listed=>(Region.ready md ops listed).isEmpty
 | .take i r,n+1,listed=>(Region.ready md ops listed).contains i && Region.free md ops listed i && planB md ops r n (listed.setIfInBounds i true)
 | .sole i r,n+1,listed=>decide (Region.ready md ops listed=[i]) && planB md ops r n (listed.setIfInBounds i true)
 | .two i j r s,n+1,listed=>decide (Region.ready md ops listed=[i,j]) && planB md ops r n (listed.setIfInBounds i true) && planB md ops s n (listed.setIfInBounds j true)
 | .three i j k r s t,n+1,listed=>decide (Region.ready md ops listed=[i,j,k]) && planB md ops r n (listed.setIfInBounds i true) && planB md ops s n (listed.setIfInBounds j true) && planB md ops t n (listed.setIfInBounds k true)
 | .narrow r,n,listed=>planB md ops r n listed
 | .take ..,0,_=>false
 | .sole ..,0,_=>false
 | .two ..,0,_=>false
 | .three ..,0,_=>false
def wpPlan (P:Program) (ops:Array Oper) (Q:Exit→Act→World→Prop):(World→Prop)→Plan→Act→World→Prop
 | _,.done,a,w=>Q .normal a w
 | S,.narrow r,a,w=>∃ S',(S' w∧∀ x,S' x→S x)∧wpPlan P ops Q S' r a w
 | S,.take i r,a,w=>∃ o,ops[i]?=some o ∧
  ((Region.wanted o (yielded ops a.tmps)=false∧wpPlan P ops Q S r (a.put o.dst undef) w) ∨
   (Region.wanted o (yielded ops a.tmps)=true∧∃ v,(∀ w',S w'→(execOp a.eval o).run P w'=.ok (.value v) w')∧wpPlan P ops Q S r (a.put o.dst v) w))
 | S,.sole i r,a,w=>wpOp P ops Q i (fun a' w'=>S w'∧wpPlan P ops Q S r a' w') a w
 | S,.two i j r s,a,w=>wpOp P ops Q i (fun a' w'=>S w'∧wpPlan P ops Q S r a' w') a w∧wpOp P ops Q j (fun a' w'=>S w'∧wpPlan P ops Q S s a' w') a w
 | S,.three i j k r s t,a,w=>wpOp P ops Q i (fun a' w'=>S w'∧wpPlan P ops Q S r a' w') a w∧wpOp P ops Q j (fun a' w'=>S w'∧wpPlan P ops Q S s a' w') a w∧wpOp P ops Q k (fun a' w'=>S w'∧wpPlan P ops Q S t a' w') a w
theorem wpAnyH_narrow {S S':World→Prop} (hle:∀ x,S' x→S x):∀ (n:Nat) (listed:Array Bool) (a:Act) (w:World),wpAnyH P md ops Q S' n listed a w→wpAnyH P md ops Q S n listed a w
 | 0,_,_,_,h=>h
 | n+1,_,_,_,h=>⟨h.1,fun i hi=>wpOp_mono (fun a' w' h'=>⟨hle _ h'.1,wpAnyH_narrow hle n _ a' w' h'.2⟩) (h.2 i hi)⟩
theorem wpAnyH_of_plan (hs:Region.noSelect ops=true) (hQ:∀ c (a:Act) d v w,Q (.panic c) (a.put d v) w→Q (.panic c) a w) :
 ∀ (l:Plan) (S:World→Prop) (n:Nat) (listed:Array Bool) (a:Act) (w:World),planB md ops l n listed=true→S w→wpPlan P ops Q S l a w→wpAnyH P md ops Q S n listed a w
 | .narrow r,S,n,listed,a,w,hB,_,h=>by
  obtain ⟨S',⟨h1,h2⟩,h3⟩:=h
  exact wpAnyH_narrow h2 n listed a w (wpAnyH_of_plan hs hQ r S' n listed a w (by cases n <;> simpa [planB] using hB) h1 h3)
 | .done,S,n,listed,a,w,hB,_,h=>wpAnyH_done (by cases n <;> simpa [planB] using hB) h _
 | .take i r,S,n+1,listed,a,w,hB,hS,h=>by
  simp only [planB,Bool.and_eq_true] at hB
  obtain ⟨⟨hr,hf⟩,hB'⟩:=hB
  obtain ⟨o,ho,h⟩:=h
  rcases h with ⟨hw,h⟩ | ⟨hw,v,hv,h⟩
  ·exact wpAnyH_take ho hs hf hr (fun c a w=>hQ c a _ _ w) (.inr ⟨hw,rfl⟩) hS (wpAnyH_of_plan hs hQ r S n _ _ w hB' hS h)
  ·exact wpAnyH_take ho hs hf hr (fun c a w=>hQ c a _ _ w) (.inl ⟨hw,hv⟩) hS (wpAnyH_of_plan hs hQ r S n _ _ w hB' hS h)
 | .sole i r,S,n+1,listed,a,w,hB,hS,h=>by
  simp only [planB,Bool.and_eq_true,decide_eq_true_eq] at hB
  obtain ⟨hr,hB'⟩:=hB
  refine wpAnyH_all hr (by simp) fun j hj=>?_
  obtain rfl:j=i:=by simpa using hj
  exact wpOp_mono (fun a' w' h'=>⟨h'.1,wpAnyH_of_plan hs hQ r S n _ _ w' hB' h'.1 h'.2⟩) h
 | .two i j r s,S,n+1,listed,a,w,hB,hS,h=>by
  simp only [planB,Bool.and_eq_true,decide_eq_true_eq] at hB
  obtain ⟨⟨hr,hB1⟩,hB2⟩:=hB
  refine wpAnyH_all hr (by simp) fun x hx=>?_
  rcases List.mem_cons.1 hx with rfl | hx
  ·exact wpOp_mono (fun a' w' h'=>⟨h'.1,wpAnyH_of_plan hs hQ r S n _ _ w' hB1 h'.1 h'.2⟩) h.1
  ·obtain rfl:x=j:=by simpa using hx
   exact wpOp_mono (fun a' w' h'=>⟨h'.1,wpAnyH_of_plan hs hQ s S n _ _ w' hB2 h'.1 h'.2⟩) h.2
 | .three i j k r s t,S,n+1,listed,a,w,hB,hS,h=>by
  simp only [planB,Bool.and_eq_true,decide_eq_true_eq] at hB
  obtain ⟨⟨⟨hr,hB1⟩,hB2⟩,hB3⟩:=hB
  refine wpAnyH_all hr (by simp) fun x hx=>?_
  rcases List.mem_cons.1 hx with rfl | hx
  ·exact wpOp_mono (fun a' w' h'=>⟨h'.1,wpAnyH_of_plan hs hQ r S n _ _ w' hB1 h'.1 h'.2⟩) h.1
  ·rcases List.mem_cons.1 hx with rfl | hx
   ·exact wpOp_mono (fun a' w' h'=>⟨h'.1,wpAnyH_of_plan hs hQ s S n _ _ w' hB2 h'.1 h'.2⟩) h.2.1
   ·obtain rfl:x=k:=by simpa using hx
    exact wpOp_mono (fun a' w' h'=>⟨h'.1,wpAnyH_of_plan hs hQ t S n _ _ w' hB3 h'.1 h'.2⟩) h.2.2
 | .take ..,_,0,_,_,_,hB,_,_=>by simp [planB] at hB
 | .sole ..,_,0,_,_,_,hB,_,_=>by simp [planB] at hB
 | .two ..,_,0,_,_,_,hB,_,_=>by simp [planB] at hB
 | .three ..,_,0,_,_,_,hB,_,_=>by simp [planB] at hB
theorem wp_region_plan {id:Nat} {a:Act} {w:World} (l:Plan) (hm:P.follows .mixedOrders=true) (hs:Region.noSelect ops=true) (hB:planB .any ops l ops.size (Array.replicate ops.size false)=true)
 (h:wpPlan P ops (NoPanic Q) (fun w'=>Below w.heap.size w w') l a w.drew):(Code.region id ops true).wp P Q a w:=
 wp_region_noPanic (wp_region_held (S:=fun w'=>Below w.heap.size w w') hm
  (wpAnyH_of_plan (md:=.any) hs (fun _ _ _ _ _ h=>h) l _ _ _ a _ hB ((Below.refl _ _).drew) h))
theorem wp_region_plan_in {id:Nat} {a:Act} {w:World} (S:World→Prop) (l:Plan) (hm:P.follows .mixedOrders=true) (hs:Region.noSelect ops=true) (hB:planB .any ops l ops.size (Array.replicate ops.size false)=true) (hS:S w.drew)
 (h:wpPlan P ops (NoPanic Q) S l a w.drew):(Code.region id ops true).wp P Q a w:=
 wp_region_noPanic (wp_region_held (S:=S) hm (wpAnyH_of_plan (md:=.any) hs (fun _ _ _ _ _ h=>h) l _ _ _ a _ hB hS h))
structure But (b:Nat) (w w':World):Prop where
 size:w.heap.size≤w'.heap.size
 block:∀ k,k < w.heap.size→k≠b→w'.heap[k]?=w.heap[k]?
theorem But.refl (b:Nat) (w:World):But b w w:=⟨Nat.le_refl _,fun _ _ _=>rfl⟩
theorem But.below {b:Nat} {w w' w2:World} (h:But b w w') (hb:Below w'.heap.size w' w2):But b w w2:=
 ⟨Nat.le_trans h.size hb.size,fun k hk hne=>(hb.block k (Nat.lt_of_lt_of_le hk h.size)).trans (h.block k hk hne)⟩
theorem But.row {b:Nat} {w w' w2:World} (h:But b w w') (hs:w'.heap.size≤w2.heap.size) (o:∀ k,k≠b→w2.heap[k]?=w'.heap[k]?):But b w w2:=
 ⟨Nat.le_trans h.size hs,fun k hk hne=>(o k hne).trans (h.block k hk hne)⟩
theorem At.but {b c:Nat} {w w':World} {C:Array Value} {t:TypeId} (h:At w c C t) (hb:But b w w') (hne:c≠b):At w' c C t:=by
 have:=h.lt
 unfold At at *
 rw [hb.block c this hne];exact h
variable {i j k:Nat} {r s t:Plan} {a:Act} {w:World} {o:Oper}
theorem plan_nil (h:Q .normal a w):wpPlan P ops (NoPanic Q) S .done a w:=h
theorem plan_skip (ho:ops.toList[i]?=some o) (hw:Region.wanted o (yielded ops a.tmps)=false) (h:wpPlan P ops Q S r (a.put o.dst undef) w):wpPlan P ops Q S (.take i r) a w:=
 ⟨o,by rw [←Array.getElem?_toList];exact ho,.inl ⟨hw,h⟩⟩
theorem plan_take (v:Value) (ho:ops.toList[i]?=some o) (hw:Region.wanted o (yielded ops a.tmps)=true) (hv:∀ w',S w'→(execOp a.eval o).run P w'=.ok (.value v) w') (h:wpPlan P ops Q S r (a.put o.dst v) w) :
 wpPlan P ops Q S (.take i r) a w:=
 ⟨o,by rw [←Array.getElem?_toList];exact ho,.inr ⟨hw,v,hv,h⟩⟩
theorem wpOp_at {K:Act→World→Prop} (ho:ops.toList[i]?=some o) (hw:Region.wanted o (yielded ops a.tmps)=true) (h:o.wp P a w K Q):wpOp P ops Q i K a w:=by
 have ho':ops[i]?=some o:=by rw [←Array.getElem?_toList];exact ho
 unfold wpOp
 simp only [ho',hw,if_true]
 exact .inl h
theorem plan_two (h1:wpPlan P ops Q S (.sole i r) a w) (h2:wpPlan P ops Q S (.sole j s) a w):wpPlan P ops Q S (.two i j r s) a w:=⟨h1,h2⟩
theorem plan_three (h1:wpPlan P ops Q S (.sole i r) a w) (h2:wpPlan P ops Q S (.sole j s) a w) (h3:wpPlan P ops Q S (.sole k t) a w):wpPlan P ops Q S (.three i j k r s t) a w:=⟨h1,h2,h3⟩
theorem plan_move (x:Operand) (v:Value) (ho:ops.toList[i]?=some o) (hw:Region.wanted o (yielded ops a.tmps)=true) (hop:o.op=.move x∨o.op=.assign x) (hx:a.eval x=v) (h:wpPlan P ops Q S r (a.put o.dst v) w) :
 wpPlan P ops Q S (.take i r) a w:=
 plan_take v ho hw (fun w' _=>by rcases hop with hop | hop <;> simp [execOp,hop,hx]) h
theorem plan_pick (c x y:Operand) (b:Bool) (v:Value) (ho:ops.toList[i]?=some o) (hw:Region.wanted o (yielded ops a.tmps)=true) (hop:o.op=.pick c x y) (hc:a.eval c=.bool b) (hx:(if b then a.eval x else a.eval y)=v) (h:wpPlan P ops Q S r (a.put o.dst v) w) :
 wpPlan P ops Q S (.take i r) a w:=
 plan_take v ho hw (fun w' _=>by simp [execOp,hop,hc,asBool,←hx]) h
theorem plan_pick_t (c x y:Operand) (v:Value) (ho:ops.toList[i]?=some o) (hw:Region.wanted o (yielded ops a.tmps)=true) (hop:o.op=.pick c x y) (hc:a.eval c=.bool true) (hx:a.eval x=v) (h:wpPlan P ops Q S r (a.put o.dst v) w) :
 wpPlan P ops Q S (.take i r) a w:=plan_pick c x y true v ho hw hop hc hx h
theorem plan_pick_f (c x y:Operand) (v:Value) (ho:ops.toList[i]?=some o) (hw:Region.wanted o (yielded ops a.tmps)=true) (hop:o.op=.pick c x y) (hc:a.eval c=.bool false) (hx:a.eval y=v) (h:wpPlan P ops Q S r (a.put o.dst v) w) :
 wpPlan P ops Q S (.take i r) a w:=plan_pick c x y false v ho hw hop hc hx h
theorem pm1 {x:Operand} {v:Value} (h:wpPlan P ops Q S r (a.put o.dst v) w) (ho:ops.toList[i]?=some o:=by rfl) (hw:Region.wanted o (yielded ops a.tmps)=true:=by rfl) (hop:o.op=.move x:=by rfl) (hx:a.eval x=v:=by first | (with_reducible exact Mem.ev_const _ _) | (with_reducible exact Mem.ev_zero _ _ _) | (with_reducible (apply Eq.trans (Mem.ev_tmp _ _ _));simp only [List.getD_cons_succ,List.getD_cons_zero] <;> rfl)):wpPlan P ops Q S (.take i r) a w:=plan_move x v ho hw (.inl hop) hx h
theorem pm2 {x:Operand} {v:Value} (h:wpPlan P ops Q S r (a.put o.dst v) w) (ho:ops.toList[i]?=some o:=by rfl) (hw:Region.wanted o (yielded ops a.tmps)=true:=by rfl) (hop:o.op=.assign x:=by rfl) (hx:a.eval x=v:=by first | (with_reducible exact Mem.ev_const _ _) | (with_reducible exact Mem.ev_zero _ _ _) | (with_reducible (apply Eq.trans (Mem.ev_tmp _ _ _));simp only [List.getD_cons_succ,List.getD_cons_zero] <;> rfl)):wpPlan P ops Q S (.take i r) a w:=plan_move x v ho hw (.inr hop) hx h
theorem pt {c x y:Operand} {v:Value} (h:wpPlan P ops Q S r (a.put o.dst v) w) (ho:ops.toList[i]?=some o:=by rfl) (hw:Region.wanted o (yielded ops a.tmps)=true:=by rfl) (hop:o.op=.pick c x y:=by rfl) (hc:a.eval c=.bool true:=by first | (with_reducible exact Mem.ev_const _ _) | (with_reducible exact Mem.ev_zero _ _ _) | (with_reducible (apply Eq.trans (Mem.ev_tmp _ _ _));simp only [List.getD_cons_succ,List.getD_cons_zero] <;> rfl)) (hx:a.eval x=v:=by first | (with_reducible exact Mem.ev_const _ _) | (with_reducible exact Mem.ev_zero _ _ _) | (with_reducible (apply Eq.trans (Mem.ev_tmp _ _ _));simp only [List.getD_cons_succ,List.getD_cons_zero] <;> rfl)):wpPlan P ops Q S (.take i r) a w:=plan_pick_t c x y v ho hw hop hc hx h
theorem pf {c x y:Operand} {v:Value} (h:wpPlan P ops Q S r (a.put o.dst v) w) (ho:ops.toList[i]?=some o:=by rfl) (hw:Region.wanted o (yielded ops a.tmps)=true:=by rfl) (hop:o.op=.pick c x y:=by rfl) (hc:a.eval c=.bool false:=by first | (with_reducible exact Mem.ev_const _ _) | (with_reducible exact Mem.ev_zero _ _ _) | (with_reducible (apply Eq.trans (Mem.ev_tmp _ _ _));simp only [List.getD_cons_succ,List.getD_cons_zero] <;> rfl)) (hx:a.eval y=v:=by first | (with_reducible exact Mem.ev_const _ _) | (with_reducible exact Mem.ev_zero _ _ _) | (with_reducible (apply Eq.trans (Mem.ev_tmp _ _ _));simp only [List.getD_cons_succ,List.getD_cons_zero] <;> rfl)):wpPlan P ops Q S (.take i r) a w:=plan_pick_f c x y v ho hw hop hc hx h
theorem pa {α:Type _} (l:List α) (i:Nat) (a:α):l.toArray.setIfInBounds i a=(l.set i a).toArray:=List.setIfInBounds_toArray ..
theorem zp (l:List Value) (d:List Deferred) (i:Nat) (v:Value):(⟨l.toArray,d⟩:Act).put (some i) v=⟨(l.set i v).toArray,d⟩:=by simp [Act.put]
theorem pb {α:Type _} (x:α) (l:List α) (b:α):(x::l).set 0 b=b::l:=rfl
theorem pc {α:Type _} (x:α) (l:List α) (n:Nat) (b:α):(x::l).set (n+1) b=x::l.set n b:=rfl
theorem plan_bin (op:BinOp) (t t2:TypeId) (x y:Operand) (vx vy v:Value) (ho:ops.toList[i]?=some o) (hw:Region.wanted o (yielded ops a.tmps)=true) (hop:o.op=.binOp op t x y t2) (hx:a.eval x=vx) (hy:a.eval y=vy)
 (hv:∀ w',(do eqGuard op t x y vx vy;binOp op t vx vy:Sem Value).run P w'=.ok v w') (h:wpPlan P ops Q S r (a.put o.dst v) w) :
 wpPlan P ops Q S (.take i r) a w:=
 plan_take v ho hw (fun w' _=>by
  have:=hv w'
  simp only [execOp,hop,hx,hy]
  rw [Sem.run_bind,this];rfl) h
theorem plan_conv (t1 t2:TypeId) (x:Operand) (vx v:Value) (ho:ops.toList[i]?=some o) (hw:Region.wanted o (yielded ops a.tmps)=true) (hop:o.op=.convert t1 t2 x) (hx:a.eval x=vx)
 (hv:∀ w',(convert t1 t2 vx).run P w'=.ok v w') (h:wpPlan P ops Q S r (a.put o.dst v) w):wpPlan P ops Q S (.take i r) a w:=
 plan_take v ho hw (fun w' _=>by
  have:=hv w'
  simp only [execOp,hop,hx]
  rw [Sem.run_bind,this];rfl) h
theorem plan_build (ty:TypeId) (parts:Array (Nat × Operand)) (ps:Array (Nat × Value)) (v:Value) (ho:ops.toList[i]?=some o) (hw:Region.wanted o (yielded ops a.tmps)=true) (hop:o.op=.build ty parts) (hps:(parts.map fun (i,x)=>(i,a.eval x))=ps)
 (hv:∀ w',(Instr.build ty ps).run P w'=.ok v w') (h:wpPlan P ops Q S r (a.put o.dst v) w):wpPlan P ops Q S (.take i r) a w:=
 plan_take v ho hw (fun w' _=>by
  have:=hv w'
  simp only [execOp,hop,hps]
  rw [Sem.run_bind,this];rfl) h
theorem plan_row (ty:TypeId) (x:Operand) (b:Nat) (d:TypeDesc) (C:Array Value) (t:TypeId) (ho:ops.toList[i]?=some o) (hw:Region.wanted o (yielded ops a.tmps)=true) (hop:o.op=.load ty x) (hx:a.eval x=.pointer (some ⟨b,0,none⟩))
 (hC:∀ w',S w'→At w' b C t) (hu:P.underlying ty=some d) (hd:d.isRow=true) (hi:(P.info? ty).map (·.size)=some C.size) (h:wpPlan P ops Q S r (a.put o.dst (.agg C)) w) :
 wpPlan P ops Q S (.take i r) a w:=
 plan_take _ ho hw (fun w' hw'=>by
  have hr:=run_loadAt_mid (P:=P) w' b 0 ty (C.extract 0 (0+C.size)).toList d ((hC w' hw').range 0 C.size) hu hd (by rw [hi];simp)
  unfold execOp
  simp only [hop,hx,Sem.run_bind,hr,Result.andThen_ok,Sem.run_pure]
  simp) h
theorem plan_len (xs:Array Operand) (ats:Array TypeId) (x:Operand) (s:Option Addr) (n c:Nat) (ho:ops.toList[i]?=some o) (hw:Region.wanted o (yielded ops a.tmps)=true) (hop:o.op=.call { callee:=.builtin .len,args:=xs,argTypes:=ats }) (hxs:xs=#[x]) (hx:a.eval x=.slice s n c)
 (hr:∀ w':World,(Builtin.len_ ats o.type #[.slice s n c]).run P w'=.ok (.int .i64 n) w')
 (h:wpPlan P ops Q S r (a.put o.dst (.int .i64 n)) w):wpPlan P ops Q S (.take i r) a w:=
 plan_take _ ho hw (fun w' _=>by
  subst hxs
  obtain ⟨dst,op,type,pos,after,guard⟩:=o
  simp only at hop
  subst hop
  rw [BigFrame.execOp_builtin]
  simp [hx,BigFrame.builtin_len,hr w']) h
def enters (P:Program) (f:FuncId):Bool:=match P.funcs[f]? with
 | some fn => !(fn.name == "runtime.NumGoroutine") && !fn.body.isNone
 | none=>false
theorem run_enters {f:FuncId} (h:enters P f=true) (vs:Array Value) (w:World):(callFunc f vs).run P w=.ok (.enter f vs) w:=by
 unfold enters at h
 split at h
 ·rename_i fn hf
  simp only [Bool.and_eq_true,Bool.not_eq_true'] at h
  have hn : ¬ fn.name = "runtime.NumGoroutine" := fun e => by have := h.1; rw [e] at this; exact absurd this (by decide)
  have hb:¬ fn.body=none:=fun e=>by have:=h.2;rw [e] at this;cases this
  simp [callFunc,Sem.run_bind,run_program,hf,hn,hb]
 ·cases h
theorem plan_call (f:FuncId) (xs:Array Operand) (ats:Array TypeId) (vs:Array Value) (hf:enters P f=true) (ho:ops.toList[i]?=some o) (hw:Region.wanted o (yielded ops a.tmps)=true) (hop:o.op=.call { callee:=.value (.func f),args:=xs,argTypes:=ats }) (hxs:xs.map a.eval=vs)
 (h:Calls P f vs w fun e w'=>∃ v,e=.returned v∧S w'∧wpPlan P ops Q S r (a.put o.dst v) w'):wpPlan P ops Q S (.sole i r) a w:=by
 refine wpOp_at ho hw ?_
 obtain ⟨dst,op,type,pos,after,guard⟩:=o
 simp only at hop
 subst hop
 unfold Oper.wp
 rw [execOp_call_go]
 have:(callFunc f (#[]++xs.map a.eval++#[])).run P w=.ok (.enter f vs) w:=by
  rw [hxs];simp [run_enters hf]
 rw [this]
 exact h.mono fun e w' ⟨v,he,hS,hp⟩=>by subst he;exact ⟨hS,hp⟩
theorem plan_sole_skip (ho:ops.toList[i]?=some o) (hw:Region.wanted o (yielded ops a.tmps)=false) (hS:S w) (h:wpPlan P ops Q S r (a.put o.dst undef) w):wpPlan P ops Q S (.sole i r) a w:=by
 have ho':ops[i]?=some o:=by rw [←Array.getElem?_toList];exact ho
 unfold wpPlan wpOp
 simp only [ho',hw,Bool.false_eq_true,if_false]
 exact ⟨hS,h⟩
theorem plan_alloc (ty:TypeId) (Z:Array Value) (ho:ops.toList[i]?=some o) (hw:Region.wanted o (yielded ops a.tmps)=true) (hop:o.op=.alloc ty) (hr:∀ w:World,(Instr.alloc ty true (.tuple #[])).run P w=.ok (.pointer (some ⟨w.heap.size,0,none⟩)) (w.alloc (.cells Z ty)))
 (hS:S (w.alloc (.cells Z ty))) (h:wpPlan P ops Q S r (a.put o.dst (.pointer (some ⟨w.heap.size,0,none⟩))) (w.alloc (.cells Z ty))):wpPlan P ops Q S (.sole i r) a w:=by
 refine wpOp_at ho hw ?_
 unfold Oper.wp execOp
 simp only [hop,Sem.run_bind,hr,Result.andThen_ok,Sem.run_pure]
 exact ⟨hS,h⟩
theorem plan_store (ty:TypeId) (x y:Operand) (b:Nat) (D C:Array Value) (t:TypeId) (ho:ops.toList[i]?=some o) (hw:Region.wanted o (yielded ops a.tmps)=true) (hop:o.op=.store ty x y) (hdst:o.dst=none)
 (hx:a.eval x=.pointer (some ⟨b,0,none⟩)) (hy:a.eval y=.agg D) (hi:(P.info? ty).map (·.size)=some D.size) (hC:At w b C t) (hn:D.size=C.size) (h1:D.all (·.oneCell')=true) (hS:S (w.setRow b D))
 (h:wpPlan P ops Q S r a (w.setRow b D)):wpPlan P ops Q S (.sole i r) a w:=by
 refine wpOp_at ho hw ?_
 have hput:a.put o.dst undef=a:=by rw [hdst];rfl
 refine wp_store_mid ty x y hop b 0 D hx hy (fun j hj=>?_) hi h1 ?_
 ·rw [hC.cell,hC.free]
  exact ⟨by simp;omega,rfl⟩
 ·rw [setCells_row _ _ _ _ _ hC (by simpa using Nat.le_of_eq hn),hput,splice_all C D hn];exact ⟨hS,h⟩
theorem plan_alloc_any (ty:TypeId) (Z:Array Value) (ho:ops.toList[i]?=some o) (hw:Region.wanted o (yielded ops a.tmps)=true) (hop:o.op=.alloc ty) (hr:∀ w:World,(Instr.alloc ty true (.tuple #[])).run P w=.ok (.pointer (some ⟨w.heap.size,0,none⟩)) (w.alloc (.cells Z ty)))
 (hS:∀ W',(∀ B x,Below B x w→B≤w.heap.size→Below B x W')→S W')
 (h:∀ b W',At W' b Z ty→w.heap.size≤b→(∀ k C t',At w k C t'→At W' k C t'∧k≠b)→(∀ B x,Below B x w→B≤w.heap.size→Below B x W')→wpPlan P ops Q S r (a.put o.dst (.pointer (some ⟨b,0,none⟩))) W'):wpPlan P ops Q S (.sole i r) a w:=
 plan_alloc ty Z ho hw hop hr (hS _ fun _ _ hb hB=>hb.alloc hB _) (h _ _ (at_new w Z ty) (Nat.le_refl _) (fun _ _ _ hk=>⟨hk.alloc _,Nat.ne_of_lt hk.lt⟩) fun _ _ hb hB=>hb.alloc hB _)
theorem plan_store_any (ty:TypeId) (x y:Operand) (b:Nat) (D C:Array Value) (t:TypeId) (ho:ops.toList[i]?=some o) (hw:Region.wanted o (yielded ops a.tmps)=true) (hop:o.op=.store ty x y) (hdst:o.dst=none)
 (hx:a.eval x=.pointer (some ⟨b,0,none⟩)) (hy:a.eval y=.agg D) (hi:(P.info? ty).map (·.size)=some D.size) (hC:At w b C t) (hn:D.size=C.size) (h1:D.all (·.oneCell')=true)
 (hS:∀ W',(∀ B x,Below B x w→B≤b→Below B x W')→S W')
 (h:∀ W',At W' b D t→(∀ k E t',At w k E t'→k≠b→At W' k E t')→(∀ B x,Below B x w→B≤b→Below B x W')→wpPlan P ops Q S r a W'):wpPlan P ops Q S (.sole i r) a w:=
 plan_store ty x y b D C t ho hw hop hdst hx hy hi hC hn h1 (hS _ fun _ _ hb hB=>below_row hb hB D) (h _ (hC.row D) (fun _ _ _ hk hne=>hk.row_other D hne) fun _ _ hb hB=>below_row hb hB D)
theorem plan_slice (t e:TypeId) (len:Nat) (parts:Array (Nat × Operand)) (cells:Array Value) (ho:ops.toList[i]?=some o) (hw:Region.wanted o (yielded ops a.tmps)=true) (hop:o.op=.buildSlice t len parts) (hu:P.underlying t=some (.slice e))
 (hf:P.builtSlice e len (parts.map fun (i,x)=>(i,a.eval x)).toList=some cells) (hS:S (w.alloc (.cells cells e)))
 (h:wpPlan P ops Q S r (a.put o.dst (.slice (some ⟨w.heap.size,0,none⟩) len len)) (w.alloc (.cells cells e))):wpPlan P ops Q S (.sole i r) a w:=by
 refine wpOp_at ho hw ?_
 unfold Program.builtSlice at hf
 cases hie:P.info? e with
 | none=>simp [hie] at hf
 | some ie=>
  simp only [hie] at hf
  cases hz:ie.zero with
  | none=>simp [hz] at hf
  | some z=>
   simp only [hz] at hf
   by_cases hc:len*ie.size > 2 ^ 24∨len*ie.size=0
   ·simp [hc] at hf
   ·rw [if_neg hc] at hf
    exact wp_buildSlice t e len parts hop cells ie z hu hie hz (fun h'=>hc (Or.inl h')) (fun h'=>hc (Or.inr h')) hf ⟨hS,h⟩
end
end Mem
theorem ze {a:Act} {x:Operand} {v:Value} (h:a.eval x=v:=by first | (with_reducible exact Mem.ev_const _ _) | (with_reducible exact Mem.ev_zero _ _ _) | (with_reducible (apply Eq.trans (Mem.ev_tmp _ _ _));simp only [List.getD_cons_succ,List.getD_cons_zero] <;> rfl)):a.eval x=v:=h
end Go.Proofs.YtplmfmpbkjnbaaaGreatDoor
namespace Go.Proofs.YtplmfmpbkjnbaaaGreatDoor
namespace Mem
open Go.RowKit
def OwnV (w:World) (B:Nat) (e:TypeId) (v:Value) (xs:List Value):Prop:=w.ownsRow B e 1 v xs.length xs
section
variable {P:Program} {w w':World} {B:Nat} {e:TypeId} {v:Value} {xs:List Value}
theorem OwnV.nil (w:World) (B:Nat) (e:TypeId):OwnV w B e (.slice none 0 0) []:=World.ownsRow_nil w B e 1
theorem OwnV.open (h:OwnV w B e v xs):∃ a cap,v=.slice a xs.length cap∧xs.length≤cap∧(xs≠[]→∃ g,a=some ⟨g,0,none⟩∧B≤g∧g < w.heap.size∧∀ i u,xs[i]?=some u→w.cell? ⟨g,i,none⟩=some u):=by
 obtain ⟨_,h | ⟨g,cap,cur,rfl,hg,hh,hn,hc,hs,ht⟩⟩:=h
 ·obtain ⟨rfl,h0⟩:=h
  exact ⟨none,0,by rw [h0],by omega,fun hne=>absurd (List.eq_nil_of_length_eq_zero h0) hne⟩
 ·refine ⟨_,cap,rfl,hn,fun _=>⟨g,rfl,hg,(Array.getElem?_eq_some_iff.1 hh).1,fun i u hu=>?_⟩⟩
  have hi:=(List.getElem?_eq_some_iff.1 hu).1
  rw [cell_of_row w g i cur _ (0,0) hh]
  have h1:(cur.toList.take (xs.length*1))[i]?=xs[i]?:=by rw [ht]
  rw [List.getElem?_take,if_pos (by omega)] at h1
  rw [←Array.getElem?_toList,h1,hu]
theorem OwnV.keep (h:OwnV w B e v xs) (hk:∀ g,v.ownBlock=some g→w'.heap[g]?=w.heap[g]?):OwnV w' B e v xs:=by
 refine ⟨h.1,?_⟩
 rcases h.2 with hn | ⟨g,cap,cur,rfl,hg,hh,hr⟩
 ·exact .inl hn
 ·exact .inr ⟨g,cap,cur,rfl,hg,by rw [hk g rfl];exact hh,hr⟩
theorem OwnV.lt (h:OwnV w B e v xs):∀ k,v.ownBlock=some k→B≤k∧k < w.heap.size:=World.ownsRow.lt h
theorem OwnV.below (h:OwnV w B e v xs) (hb:Below w.heap.size w w'):OwnV w' B e v xs:=h.keep fun g hg=>hb.block g (h.lt g hg).2
theorem OwnV.ne_own {B':Nat} {e':TypeId} {v':Value} {ys:List Value} (h:OwnV w B e v xs) (k:OwnV w B' e' v' ys) (he:e≠e'):∀ g,v.ownBlock=some g→v'.ownBlock≠some g:=by
 intro g hg hg'
 rcases h.2 with ⟨rfl,_⟩ | ⟨b,cap,cur,rfl,_,hh,_⟩
 ·simp [Value.ownBlock] at hg
 rcases k.2 with ⟨rfl,_⟩ | ⟨b',cap',cur',rfl,_,hh',_⟩
 ·simp [Value.ownBlock] at hg'
 have e1:b=g:=by simpa [Value.ownBlock] using hg
 have e2:b'=g:=by simpa [Value.ownBlock] using hg'
 subst e1;subst e2
 rw [hh] at hh'
 injection hh' with hh'
 injection hh' with _ h2
 exact he h2
def elemB (P:Program) (t e:TypeId) (z:Value) (bytes:Nat):Prop:=P.underlying t=some (.slice e)∧(P.info? e).map (fun i=>(i.zero,i.size,i.bytes))=some (some z,1,bytes)
theorem run_append_lit {t ty:TypeId} {z x:Value} {bytes:Nat} (he:elemB P t e z bytes) (hz1:z.cells.size=1) (hown:OwnV w B e v xs) (h1:x.oneCell'=true) (hlen:(xs.length+1)*bytes≤140737488355328) (hl2:xs.length < 140737488355328) (hB:B≤w.heap.size) :
 ∃ v' w',(Builtin.append_ #[t,t] ty #[v,.slice (some ⟨w.heap.size,0,none⟩) 1 1]).run P (w.alloc (.cells #[x] e))=.ok v' w'∧OwnV w' B e v' (xs++[x])∧(∀ k,k < w.heap.size→v.ownBlock≠some k→w'.heap[k]?=w.heap[k]?)∧Below B w w'∧(v'.ownBlock=v.ownBlock∨∃ g,v'.ownBlock=some g∧w.heap.size≤g):=by
 obtain ⟨i0,hi,hz0,hs,hb⟩:=info_parts he.2
 have hal:Below w.heap.size w (w.alloc (.cells #[x] e)):=(Below.refl _ _).alloc (Nat.le_refl _) _
 have ho2:=hown.below hal
 have hml:140737488355328≤maxLen:=by simp [maxLen]
 obtain ⟨v',w',hrun,h2,h3,_,h5⟩:=run_append_own_at (P:=P) (w.alloc (.cells #[x] e)) B t ty e i0 z 1 bytes he.1 hi hz0 hs hb hz1 (by decide) v xs.length xs ho2 ⟨w.heap.size,0,none⟩ 1 1 [x] rfl (fun j u hu=>by
  have hj:j=0:=by
   have:=(List.getElem?_eq_some_iff.1 hu).1
   simpa using this
  subst hj
  have hx:x=u:=by simpa using hu
  rw [Addr.add_mid,(at_new w #[x] e).cell,←hx];rfl) (fun u hu=>by
  have hx:u=x:=by simpa using hu
  rw [hx];exact h1) (by omega) hlen (Nat.le_trans hB hal.size)
 refine ⟨v',w',hrun,?_,fun k hk hne=>?_,?_,?_⟩
 ·unfold OwnV
  rw [List.length_append]
  exact h2
 ·rw [h3.block k (Nat.lt_of_lt_of_le hk hal.size) (fun e=>hne e.symm),hal.block k hk]
 ·exact (hal.mono hB).grown h3 (Nat.le_trans hB hal.size) (fun g hg=>(hown.lt g hg).1)
 ·rcases h5 with h5 | h5
  ·exact .inl h5
  ·exact .inr ⟨_,h5,hal.size⟩
theorem append_lit_stays {t ty:TypeId} {z x v':Value} {bytes:Nat} (he:elemB P t e z bytes) (hown:OwnV w B e v xs) (h1:x.oneCell'=true) (hlen:(xs.length+1)*bytes≤140737488355328) (hl2:xs.length < 140737488355328)
 (hrun:(Builtin.append_ #[t,t] ty #[v,.slice (some ⟨w.heap.size,0,none⟩) 1 1]).run P (w.alloc (.cells #[x] e))=.ok v' w') (ho':OwnV w' B e v' (xs++[x])) :
 ∀ g i u,v.ownBlock=some g→xs[i]?=some u→w'.cell? ⟨g,i,none⟩=some u:=by
 obtain ⟨i0,hi,hz0,hs,hb⟩:=info_parts he.2
 intro g i u hg hu
 have hal:Below w.heap.size w (w.alloc (.cells #[x] e)):=(Below.refl _ _).alloc (Nat.le_refl _) _
 have ho2:=hown.below hal
 have hcell:=World.ownsRow.cells ho2 hg
 rcases ho2.2 with ⟨rfl,_⟩ | ⟨g',cap,cur,rfl,hbg,hgg,hnc,hcm,hcs,htake⟩
 ·simp [Value.ownBlock] at hg
 obtain rfl:g'=g:=by simpa [Value.ownBlock] using hg
 have hnew:∀ j u,[x][j]?=some u→(w.alloc (.cells #[x] e)).cell? ((⟨w.heap.size,0,none⟩:Addr).add j)=some u:=fun j u hu=>by
  have hj:j=0:=by
   have:=(List.getElem?_eq_some_iff.1 hu).1
   simpa using this
  subst hj
  have hx:x=u:=by simpa using hu
  rw [Addr.add_mid,(at_new w #[x] e).cell,←hx];rfl
 by_cases hroom:xs.length+1≤cap
 ·have hr:=run_append_room (P:=P) (w.alloc (.cells #[x] e)) t ty e i0 he.1 hi g' xs.length cap cur hgg ⟨w.heap.size,0,none⟩ 1 1 [x] (by rw [hs];rfl) hnew (fun u hu=>by
   have hx:u=x:=by simpa using hu
   rw [hx];exact h1) hroom (by rw [hs,hcs,Nat.mul_one,Nat.mul_one];simpa using hroom)
  rw [hrun] at hr
  injection hr with hv hw
  subst hv
  have h2:=World.ownsRow.cells ho' (g:=g') rfl i u (by rw [List.getElem?_append_left (List.getElem?_eq_some_iff.1 hu).1];exact hu)
  rw [Addr.add_mid] at h2
  simpa using h2
 ·have hr:=run_append_grow (P:=P) (w.alloc (.cells #[x] e)) t ty e i0 z he.1 hi hz0 ⟨g',0,none⟩ xs.length cap xs (by rw [hs,Nat.mul_one]) hcell ⟨w.heap.size,0,none⟩ 1 1 [x] (by rw [hs];rfl) hnew (by omega) (by omega) (by rw [hb];exact growslice_fits (by omega) hlen)
  rw [hrun] at hr
  injection hr with hv hw
  have hlt:g' < (w.alloc (.cells #[x] e)).heap.size:=(Array.getElem?_eq_some_iff.1 hgg).1
  have h2:=hcell i u hu
  rw [Addr.add_mid] at h2
  have hk:w'.heap[g']?=(w.alloc (.cells #[x] e)).heap[g']?:=by rw [hw];first | exact heap_alloc_old _ _ g' hlt | exact heap_alloc_old _ _ hlt
  rw [World.cell?_of_block (a:=⟨g',i,none⟩) hk]
  simpa using h2
theorem cell_alloc {w:World} {p:Addr} {o:Obj} (h:p.block < w.heap.size):(w.alloc o).cell? p=w.cell? p:=
 World.cell?_of_block (by first | exact heap_alloc_old _ _ h | exact heap_alloc_old _ _ _ h)
theorem wpList_slice_mid {ops:Array Oper} {rest:List Oper} {op:Oper} {a:Act} {Q:Exit→Act→World→Prop} (hgd:op.guard=none) (ty:TypeId) (x i j:Operand) (ho:op.op=.slice ty x (some i) (some j) none)
 (elem:TypeId) (hu:P.underlying ty=some (.slice elem)) (hs:(P.info? elem).map (·.size)=some 1) (b o len cap k l:Nat) (hx:a.eval x=.slice (some ⟨b,o,none⟩) len cap) (hi:a.eval i=.int .i64 (k:Int)) (hj:a.eval j=.int .i64 (l:Int)) (hk:k≤l) (hl:l≤cap) (hkc:k < cap)
 (h:wpList P ops Q rest (a.put op.dst (.slice (some ⟨b,o+k,none⟩) (l - k) (cap - k))) w):wpList P ops Q (op::rest) a w:=by
 refine wpList_plain hgd fun K hK=>?_
 cases hq:P.info? elem with
 | none=>simp [hq] at hs
 | some q=>
  have hs1:q.size=1:=by simpa [hq] using hs
  have hne:¬ cap=k:=by omega
  have hkl:(k:Int)≤(l:Int):=by omega
  have hlc:(l:Int)≤(cap:Int):=by omega
  have hrun:(Instr.slice ty (.slice (some ⟨b,o,none⟩) len cap) (some (.int .i64 (k:Int))) (some (.int .i64 (l:Int))) none).run P w=.ok (.slice (some ⟨b,o+k,none⟩) (l - k) (cap - k)) w:=by
   simp [Instr.slice,Instr.sliceBounds,Instr.sliceBound,asIntOf,Sem.run_bind,run_underlying hu,sizeOf,typeInfo,hq,hs1,hk,hl,hne,Addr.add_mid]
  have hat:(Instr.sliceAt ty (.slice (some ⟨b,o,none⟩) len cap) (some (.int .i64 (k:Int))) (some (.int .i64 (l:Int))) none).run P w=.ok (.slice (some ⟨b,o+k,none⟩) (l - k) (cap - k)) w:=by
   simp [Instr.sliceAt,Sem.run_bind,run_underlying hu,hrun]
  unfold Oper.wp execOp
  simp only [ho,hx,hi,hj,Option.map_some,Option.map_none,Sem.run_bind,hat,Result.andThen_ok,Sem.run_pure]
  exact hK _ _ h
def Rd (w:World) (v:Value) (xs:List Value):Prop:=∃ a cap,v=.slice a xs.length cap∧(xs≠[]→∃ p,a=some p∧∀ i u,xs[i]?=some u→w.cell? (p.add i)=some u)
theorem OwnV.rd (h:OwnV w B e v xs):Rd w v xs:=by
 obtain ⟨a,cap,rfl,_,hr⟩:=h.open
 exact ⟨a,cap,rfl,fun hne=>by
  obtain ⟨g,rfl,_,_,hc⟩:=hr hne
  exact ⟨_,rfl,fun i u hu=>by rw [Addr.add_mid,Nat.zero_add];exact hc i u hu⟩⟩
theorem run_append_rd {t ty:TypeId} {z vx:Value} {ys:List Value} {bytes:Nat} (he:elemB P t e z bytes) (hz1:z.cells.size=1) (hown:OwnV w B e v xs) (hrd:Rd w vx ys) (h1:∀ u∈ys,u.oneCell'=true) (hlen:(xs.length+ys.length)*bytes≤140737488355328) (hl2:xs.length+ys.length < 140737488355328) (hB:B≤w.heap.size) :
 ∃ v' w',(Builtin.append_ #[t,t] ty #[v,vx]).run P w=.ok v' w'∧OwnV w' B e v' (xs++ys)∧(∀ k,k < w.heap.size→v.ownBlock≠some k→w'.heap[k]?=w.heap[k]?)∧Below B w w'∧(v'.ownBlock=v.ownBlock∨∃ g,v'.ownBlock=some g∧w.heap.size≤g):=by
 obtain ⟨i0,hi,hz0,hs,hb⟩:=info_parts he.2
 obtain ⟨a0,cap,rfl,hr⟩:=hrd
 have hml:140737488355328≤maxLen:=by simp [maxLen]
 by_cases hne:ys=[]
 ·subst hne
  cases a0 with
  | none=>
   refine ⟨v,w,?_,by simpa using hown,fun _ _ _=>rfl,Below.refl _ _,.inl rfl⟩
   rcases hown.2 with ⟨rfl,_⟩ | ⟨g,cap',cur,rfl,_,_,hn,_⟩
   ·simp [Builtin.append_,run_underlying he.1,sizeOf,typeInfo,hi,Builtin.lenOf,Builtin.firstCells]
   ·simp [Builtin.append_,run_underlying he.1,sizeOf,typeInfo,hi,Builtin.lenOf,Builtin.firstCells,hn,storeCells]
  | some ad=>
   obtain ⟨v',w',hrun,h2,h3,_,h5⟩:=run_append_own_at (P:=P) w B t ty e i0 z 1 bytes he.1 hi hz0 hs hb hz1 (by decide) v xs.length xs hown ad 0 cap [] rfl (fun j u hu=>by simp at hu) (fun u hu=>by simp at hu) (by omega) (by simpa using hlen) hB
   refine ⟨v',w',hrun,by simpa [OwnV] using h2,fun k hk hne=>h3.block k hk (fun e=>hne e.symm),(Below.refl _ _).grown h3 hB (fun g hg=>(hown.lt g hg).1),?_⟩
   rcases h5 with h5 | h5
   ·exact .inl h5
   ·exact .inr ⟨_,h5,Nat.le_refl _⟩
 ·obtain ⟨ad,rfl,hc⟩:=hr hne
  obtain ⟨v',w',hrun,h2,h3,_,h5⟩:=run_append_own_at (P:=P) w B t ty e i0 z 1 bytes he.1 hi hz0 hs hb hz1 (by decide) v xs.length xs hown ad ys.length cap ys (by rw [Nat.mul_one]) hc h1 (by omega) hlen hB
  refine ⟨v',w',hrun,by unfold OwnV;rw [List.length_append];exact h2,fun k hk hne=>h3.block k hk (fun e=>hne e.symm),(Below.refl _ _).grown h3 hB (fun g hg=>(hown.lt g hg).1),?_⟩
  rcases h5 with h5 | h5
  ·exact .inl h5
  ·exact .inr ⟨_,h5,Nat.le_refl _⟩
theorem wpList_append_rd {ops:Array Oper} {rest:List Oper} {o:Oper} {a:Act} {Q:Exit→Act→World→Prop} (hgd:o.guard=none) (s x:Operand) (t:TypeId) (ho:o.op=.call { callee:=.builtin .append,args:=#[s,x],argTypes:=#[t,t] })
 (vx:Value) (ys:List Value) (z:Value) (bytes:Nat) (he:elemB P t e z bytes) (hz1:z.cells.size=1) (hs:a.eval s=v) (hown:OwnV w B e v xs) (hx:a.eval x=vx) (hrd:Rd w vx ys) (h1:∀ u∈ys,u.oneCell'=true) (hlen:(xs.length+ys.length)*bytes≤140737488355328) (hl2:xs.length+ys.length < 140737488355328) (hB:B≤w.heap.size)
 (h:∀ v' w',OwnV w' B e v' (xs++ys)→(∀ k,k < w.heap.size→v.ownBlock≠some k→w'.heap[k]?=w.heap[k]?)→Below B w w'→(v'.ownBlock=v.ownBlock∨∃ g,v'.ownBlock=some g∧w.heap.size≤g)→wpList P ops Q rest (a.put o.dst v') w') :
 wpList P ops Q (o::rest) a w:=by
 refine wpList_plain hgd fun K hK=>?_
 obtain ⟨v',w',hrun,h2,h3,h4,h5⟩:=run_append_rd (P:=P) (ty:=o.type) he hz1 hown hrd h1 hlen hl2 hB
 unfold Oper.wp execOp
 simp only [ho,resolve,invoke,builtin,Sem.run_bind,Sem.run_pure,Result.andThen_ok,List.map_toArray,List.map_cons,List.map_nil,hs,hx,hrun]
 exact hK _ _ (h v' w' h2 h3 h4 h5)
theorem wpList_append_lit {ops:Array Oper} {rest:List Oper} {o:Oper} {a:Act} {Q:Exit→Act→World→Prop} (hgd:o.guard=none) (s x:Operand) (t:TypeId) (ho:o.op=.call { callee:=.builtin .append,args:=#[s,x],argTypes:=#[t,t] })
 (u z:Value) (bytes:Nat) (he:elemB P t e z bytes) (hz1:z.cells.size=1) (hs:a.eval s=v) (hown:OwnV w B e v xs) (hx:a.eval x=.slice (some ⟨w.heap.size,0,none⟩) 1 1) (h1:u.oneCell'=true) (hlen:(xs.length+1)*bytes≤140737488355328) (hl2:xs.length < 140737488355328) (hB:B≤w.heap.size)
 (h:∀ v' w',OwnV w' B e v' (xs++[u])→(∀ k,k < w.heap.size→v.ownBlock≠some k→w'.heap[k]?=w.heap[k]?)→Below B w w'→(v'.ownBlock=v.ownBlock∨∃ g,v'.ownBlock=some g∧w.heap.size≤g)→wpList P ops Q rest (a.put o.dst v') w') :
 wpList P ops Q (o::rest) a (w.alloc (.cells #[u] e)):=by
 refine wpList_plain hgd fun K hK=>?_
 obtain ⟨v',w',hrun,h2,h3,h4,h5⟩:=run_append_lit (P:=P) (ty:=o.type) he hz1 hown h1 hlen hl2 hB
 unfold Oper.wp execOp
 simp only [ho,resolve,invoke,builtin,Sem.run_bind,Sem.run_pure,Result.andThen_ok,List.map_toArray,List.map_cons,List.map_nil,hs,hx,hrun]
 exact hK _ _ (h v' w' h2 h3 h4 h5)
theorem plan_append_lit {ops:Array Oper} {o:Oper} {a:Act} {Q:Exit→Act→World→Prop} {S:World→Prop} {i:Nat} {r:Plan} (s x:Operand) (t:TypeId) (ho:ops.toList[i]?=some o) (hw:Region.wanted o (yielded ops a.tmps)=true) (hop:o.op=.call { callee:=.builtin .append,args:=#[s,x],argTypes:=#[t,t] })
 (u z:Value) (bytes:Nat) (he:elemB P t e z bytes) (hz1:z.cells.size=1) (hs:a.eval s=v) (hown:OwnV w B e v xs) (hx:a.eval x=.slice (some ⟨w.heap.size,0,none⟩) 1 1) (h1:u.oneCell'=true) (hlen:(xs.length+1)*bytes≤140737488355328) (hl2:xs.length < 140737488355328) (hB:B≤w.heap.size)
 (h:∀ v' w',OwnV w' B e v' (xs++[u])→(∀ k,k < w.heap.size→v.ownBlock≠some k→w'.heap[k]?=w.heap[k]?)→Below B w w'→(v'.ownBlock=v.ownBlock∨∃ g,v'.ownBlock=some g∧w.heap.size≤g)→(∀ g i u,v.ownBlock=some g→xs[i]?=some u→w'.cell? ⟨g,i,none⟩=some u)→S w'∧wpPlan P ops Q S r (a.put o.dst v') w') :
 wpPlan P ops Q S (.sole i r) a (w.alloc (.cells #[u] e)):=by
 refine wpOp_at ho hw ?_
 obtain ⟨v',w',hrun,h2,h3,h4,h5⟩:=run_append_lit (P:=P) (ty:=o.type) he hz1 hown h1 hlen hl2 hB
 unfold Oper.wp execOp
 simp only [hop,resolve,invoke,builtin,Sem.run_bind,Sem.run_pure,Result.andThen_ok,List.map_toArray,List.map_cons,List.map_nil,hs,hx,hrun]
 exact h v' w' h2 h3 h4 h5 (append_lit_stays he hown h1 hlen hl2 hrun h2)
end
end Mem
end Go.Proofs.YtplmfmpbkjnbaaaGreatDoor
namespace Go.Proofs.YtplmfmpbkjnbaaaGreatDoor
namespace Mem
open Go.RowKit
section
variable {P:Program} {ops:Array Oper} {K:World→Prop} {Q:Act→Prop} {a:Act} {op:Oper}
theorem wpList_store_one {rest:List Oper} {Q:Exit→Act→World→Prop} {w:World} (hgd:op.guard=none) (ty:TypeId) (x y:Operand) (ho:op.op=.store ty x y) (hdst:op.dst=none)
 (b i:Nat) (v:Value) (hx:a.eval x=.pointer (some ⟨b,i,none⟩)) (hy:a.eval y=v) (h1:v.oneCell'=true) (hs:(P.info? ty).map (·.size)=some 1)
 (C:Array Value) (t:TypeId) (hC:At w b C t) (hi:i < C.size)
 (h:∀ w',At w' b (C.setIfInBounds i v) t→(∀ k,k≠b→w'.heap[k]?=w.heap[k]?)→(∀ B a,Below B a w→B≤b→Below B a w')→wpList P ops Q rest a w'):wpList P ops Q (op::rest) a w:=by
 refine wpList_plain hgd fun K hK=>?_
 have hc:w.cell? ⟨b,i,none⟩=some C[i]:=by rw [hC.cell];simp [hi]
 have hf:w.frozen? ⟨b,i,none⟩=false:=hC.free i
 have hcs:v.cells=#[v]:=by cases v <;> first | rfl | simp [Value.oneCell'] at h1
 cases hq:P.info? ty with
 | none=>simp [hq] at hs
 | some q=>
  have hs1:q.size=1:=by simpa [hq] using hs
  have hst:=run_store P w ⟨b,i,none⟩ v .plain h1
  rw [hc] at hst
  simp only [hf] at hst
  have hrun:(Instr.storeAt ty (.pointer (some ⟨b,i,none⟩)) v).run P w=.ok () (w.setCell ⟨b,i,none⟩ v):=by
   have e0:(⟨b,i,none⟩:Addr).add 0=⟨b,i,none⟩:=by rw [Addr.add_mid];rfl
   simp [Instr.storeAt,Instr.sureAddr,storeVar,sizeOf,typeInfo,hq,hs1,hcs,storeCells,Sem.run_bind,e0,hst,Result.andThen]
  have hput:a.put op.dst undef=a:=by rw [hdst];rfl
  unfold Oper.wp execOp
  simp only [ho,hx,hy,Sem.run_bind,hrun,Result.andThen_ok,Sem.run_pure]
  show K (a.put op.dst undef) _
  rw [hput]
  exact hK _ _ (h _ (hC.set i v) (fun k hk=>heap_setCell_other w _ k v hk) (fun B a hb hB=>hb.setCell hB v))
end
section
variable {P:Program} {ops:Array Oper} {Q:Exit→Act→World→Prop} {S:World→Prop}
theorem plan_index {w:World} {a:Act} {o:Oper} {i:Nat} {r:Plan} (t e:TypeId) (x ix:Operand) (g off n c:Nat) (k:Nat) (ho:ops.toList[i]?=some o) (hw:Region.wanted o (yielded ops a.tmps)=true) (hop:o.op=.indexAddr t x ix)
 (hx:a.eval x=.slice (some ⟨g,off,none⟩) n c) (hi:a.eval ix=.int .i64 (k:Int)) (hk:k < n) (hu:P.underlying t=some (.slice e)) (hs:(P.info? e).map (·.size)=some 1)
 (h:wpPlan P ops Q S r (a.put o.dst (.pointer (some ⟨g,off+k,none⟩))) w):wpPlan P ops Q S (.take i r) a w:=
 plan_take _ ho hw (fun w' _=>by
  cases hq:P.info? e with
  | none=>simp [hq] at hs
  | some q=>
   have hs1:q.size=1:=by simpa [hq] using hs
   simp [execOp,hop,hx,hi,Instr.indexAt,asIntOf,Sem.run_bind,run_underlying hu,sizeOf,typeInfo,hq,hs1,hk,Addr.add]) h
theorem plan_cell {w:World} {a:Act} {o:Oper} {i:Nat} {r:Plan} (t:TypeId) (x:Operand) (p:Addr) (v:Value) (d:TypeDesc) (ho:ops.toList[i]?=some o) (hw:Region.wanted o (yielded ops a.tmps)=true) (hop:o.op=.load t x)
 (hx:a.eval x=.pointer (some p)) (hc:∀ w',S w'→w'.cell? p=some v) (hu:P.underlying t=some d) (hd:d.isRow=false)
 (h:wpPlan P ops Q S r (a.put o.dst v) w):wpPlan P ops Q S (.take i r) a w:=
 plan_take _ ho hw (fun w' hw'=>by
  have hagg:(isAgg t).run P w'=.ok false w':=by
   unfold isAgg
   rw [Sem.run_bind,run_underlying hu w']
   cases d <;> simp_all
  simp [execOp,hop,hx,Instr.loadAt,Instr.sureAddr,loadVar,Sem.run_bind,hagg,hc w' hw']) h
end
section
variable {P:Program} {ops:Array Oper} {Q:Exit→Act→World→Prop} {S:World→Prop} {w:World} {a:Act} {o:Oper} {i:Nat} {r:Plan}
theorem plan_index_arr (t e:TypeId) (n:Nat) (x ix:Operand) (g off z:Nat) (k:Nat) (ho:ops.toList[i]?=some o) (hw:Region.wanted o (yielded ops a.tmps)=true) (hop:o.op=.indexAddr t x ix)
 (hx:a.eval x=.pointer (some ⟨g,off,none⟩)) (hi:a.eval ix=.int .i64 (k:Int)) (hk:k < n) (hu:P.underlying t=some (.array n e)) (hs:(P.info? e).map (·.size)=some z) (_hz:0 < z)
 (h:wpPlan P ops Q S r (a.put o.dst (.pointer (some ⟨g,off+k*z,none⟩))) w):wpPlan P ops Q S (.take i r) a w:=
 plan_take _ ho hw (fun w' _=>by
  cases hq:P.info? e with
  | none=>simp [hq] at hs
  | some q=>
   have hs1:q.size=z:=by simpa [hq] using hs
   simp [execOp,hop,hx,hi,Instr.indexAt,asIntOf,Instr.sureAddr,Sem.run_bind,run_underlying hu,sizeOf,typeInfo,hq,hs1,hk,Addr.add_mid]) h
theorem plan_index_arr1 (t e:TypeId) (n:Nat) (x ix:Operand) (g:Nat) (k:Nat) (ho:ops.toList[i]?=some o) (hw:Region.wanted o (yielded ops a.tmps)=true) (hop:o.op=.indexAddr t x ix)
 (hx:a.eval x=.pointer (some ⟨g,0,none⟩)) (hi:a.eval ix=.int .i64 (k:Int)) (hk:k < n) (hu:P.underlying t=some (.array n e)) (hs:(P.info? e).map (·.size)=some 1)
 (h:wpPlan P ops Q S r (a.put o.dst (.pointer (some ⟨g,k,none⟩))) w):wpPlan P ops Q S (.take i r) a w:=
 plan_index_arr t e n x ix g 0 1 k ho hw hop hx hi hk hu hs (by decide) (by rw [show 0+k*1=k by omega];exact h)
theorem plan_field (t:TypeId) (x:Operand) (f:Nat) (g off:Nat) (p:Addr) (ho:ops.toList[i]?=some o) (hw:Region.wanted o (yielded ops a.tmps)=true) (hop:o.op=.fieldAddr t x f)
 (hx:a.eval x=.pointer (some ⟨g,off,none⟩)) (hr:∀ w',(Instr.fieldAt t (.pointer (some ⟨g,off,none⟩)) f).run P w'=.ok (.pointer (some p)) w')
 (h:wpPlan P ops Q S r (a.put o.dst (.pointer (some p))) w):wpPlan P ops Q S (.take i r) a w:=
 plan_take _ ho hw (fun w' _=>by
  have:=hr w'
  unfold execOp
  simp only [hop,hx,Sem.run_bind,this,Result.andThen_ok,Sem.run_pure]) h
theorem plan_store_one (ty:TypeId) (x y:Operand) (b k:Nat) (v:Value) (C:Array Value) (t:TypeId) (ho:ops.toList[i]?=some o) (hw:Region.wanted o (yielded ops a.tmps)=true) (hop:o.op=.store ty x y) (hdst:o.dst=none)
 (hx:a.eval x=.pointer (some ⟨b,k,none⟩)) (hy:a.eval y=v) (h1:v.oneCell'=true) (hs:(P.info? ty).map (·.size)=some 1) (hC:At w b C t) (hk:k < C.size) (hS:S (w.setCell ⟨b,k,none⟩ v))
 (h:wpPlan P ops Q S r a (w.setCell ⟨b,k,none⟩ v)):wpPlan P ops Q S (.sole i r) a w:=by
 refine wpOp_at ho hw ?_
 have hput:a.put o.dst undef=a:=by rw [hdst];rfl
 have hc:w.cell? ⟨b,k,none⟩=some C[k]:=by rw [hC.cell];simp [hk]
 have hf:w.frozen? ⟨b,k,none⟩=false:=hC.free k
 have hcs:v.cells=#[v]:=by cases v <;> first | rfl | simp [Value.oneCell'] at h1
 cases hq:P.info? ty with
 | none=>simp [hq] at hs
 | some q=>
  have hs1:q.size=1:=by simpa [hq] using hs
  have hst:=run_store P w ⟨b,k,none⟩ v .plain h1
  rw [hc] at hst
  simp only [hf] at hst
  have hrun:(Instr.storeAt ty (.pointer (some ⟨b,k,none⟩)) v).run P w=.ok () (w.setCell ⟨b,k,none⟩ v):=by
   have e0:(⟨b,k,none⟩:Addr).add 0=⟨b,k,none⟩:=by rw [Addr.add_mid];rfl
   simp [Instr.storeAt,Instr.sureAddr,storeVar,sizeOf,typeInfo,hq,hs1,hcs,storeCells,Sem.run_bind,e0,hst,Result.andThen]
  unfold Oper.wp execOp
  simp only [hop,hx,hy,Sem.run_bind,hrun,Result.andThen_ok,Sem.run_pure]
  show S _∧wpPlan P ops Q S r (a.put o.dst undef) _
  rw [hput]
  exact ⟨hS,h⟩
end
theorem wpList_build {P:Program} {ops:Array Oper} {rest:List Oper} {o:Oper} {a:Act} {w:World} {Q:Exit→Act→World→Prop} (hw:Region.wanted o (yielded ops a.tmps)=true) (ty:TypeId) (parts:Array (Nat × Operand)) (ps:Array (Nat × Value)) (v:Value)
 (hop:o.op=.build ty parts) (hps:(parts.map fun (i,x)=>(i,a.eval x))=ps) (hv:∀ w',(Instr.build ty ps).run P w'=.ok v w') (h:wpList P ops Q rest (a.put o.dst v) w):wpList P ops Q (o::rest) a w:=by
 unfold wpList
 rw [if_pos hw]
 left
 unfold Oper.wp
 have:(execOp a.eval o).run P w=.ok (.value v) w:=by
  have:=hv w
  simp only [execOp,hop,hps]
  rw [Sem.run_bind,this];rfl
 rw [this]
 exact h
end Mem
end Go.Proofs.YtplmfmpbkjnbaaaGreatDoor
namespace Go.Proofs.YtplmfmpbkjnbaaaGreatDoor
namespace Mem
open Go.RowKit
theorem all_range_int:∀ (xs ys:List Int),xs.length=ys.length→((List.range xs.length).all fun i=>xs.getD i 0 == ys.getD i 0)=(xs == ys)
 | [],[],_=>rfl
 | x::xs,y::ys,h=>by
  have ih:=all_range_int xs ys (by simpa using h)
  rw [List.length_cons,List.range_succ_eq_map,List.all_cons,List.all_map]
  simp only [List.getD_cons_zero,Function.comp_def,List.getD_cons_succ,ih]
  simp [List.cons_beq_cons]
 | [],_::_,h=>by simp at h
 | _::_,[],h=>by simp at h
theorem run_equalIn_ints {P:Program} (w:World) (d:Nat) (t e:TypeId) (k:IntKind) (n:Nat) (ht:P.underlying t=some (.array n e)) (he:P.underlying e=some (.int k)) (hsz:∀ w,(sizeOf e).run P w=.ok 1 w)
 (xs ys:List Int) (hx:xs.length=n) (hy:ys.length=n) :
 (Op.equalIn (d+2) t (.agg (xs.map (Value.int k)).toArray) (.agg (ys.map (Value.int k)).toArray)).run P w=.ok (xs == ys) w:=by
 rw [←all_range_int xs ys (hx.trans hy.symm),hx,List.range_eq_range',Op.equalIn]
 simp only [Sem.run_bind,run_underlying ht,Result.andThen_ok,hsz,Std.Legacy.Range.forIn_eq_forIn_range',Std.Legacy.Range.size,Nat.sub_zero,Nat.add_sub_cancel,Nat.div_one]
 have hl:∀ i∈List.range' 0 n 1,i < n:=fun i hi=>by simpa using (List.mem_range'_1.1 hi).2
 generalize List.range' 0 n 1=l at hl ⊢
 induction l with
 | nil=>simp
 | cons i l ih=>
  have hi:i < n:=hl i (by simp)
  have px:(part e (xs.map (Value.int k)).toArray (i*1)).run P w=.ok (.int k (xs.getD i 0)) w:=by
   simp [part,isAgg,run_underlying he,List.getD,List.getElem?_eq_getElem (show i < xs.length by omega)]
  have py:(part e (ys.map (Value.int k)).toArray (i*1)).run P w=.ok (.int k (ys.getD i 0)) w:=by
   simp [part,isAgg,run_underlying he,List.getD,List.getElem?_eq_getElem (show i < ys.length by omega)]
  have pe:(Op.equalIn (d+1) e (.int k (xs.getD i 0)) (.int k (ys.getD i 0))).run P w=.ok (xs.getD i 0 == ys.getD i 0) w:=by
   rw [run_equalIn_int w d e k k _ _ he]
  simp only [List.forIn_cons,Sem.run_bind,px,py,pe,Result.andThen_ok,List.all_cons]
  cases hb:(xs.getD i 0 == ys.getD i 0)
  ·simp
  ·simp only [Bool.not_true,Bool.false_eq_true,if_false,Sem.run_pure,Result.andThen_ok,Bool.true_and]
   exact ih fun j hj=>hl j (by simp [hj])
end Mem
end Go.Proofs.YtplmfmpbkjnbaaaGreatDoor
namespace Go.Proofs.YtplmfmpbkjnbaaaGreatDoor
namespace Mem
open Go.RowKit
def eqParts (d:Nat) (xs ys:Array Value):List (Bool × TypeId × Nat)→Sem Bool
 | []=>pure true
 | (true,t,o)::l=>do
  let a ←part t xs o
  let b ←part t ys o
  let r ←Op.equalIn d t a b
  if (!r)=true then pure false else eqParts d xs ys l
 | (false,_,_)::l=>eqParts d xs ys l
theorem eqFields_parts (d : Nat) (xs ys : Array Value) : ∀ fs : List Field, Op.eqFields d xs ys fs = eqParts d xs ys (fs.map fun f => (decide (f.name ≠ "_"), f.type, f.offset))
 | []=>rfl
 | f::fs=>by
  rw [List.map_cons,Op.eqFields,eqFields_parts d xs ys fs]
  by_cases h : f.name ≠ "_"
  ·rw [if_pos h,decide_eq_true h,eqParts]
  ·rw [if_neg h,decide_eq_false h,eqParts]
theorem eqParts_cons {P:Program} {w:World} {d:Nat} {xs ys:Array Value} {t:TypeId} {o:Nat} {l:List (Bool × TypeId × Nat)} {a b:Value} {r s:Bool} (ha:(part t xs o).run P w=.ok a w) (hb:(part t ys o).run P w=.ok b w) (hr:(Op.equalIn d t a b).run P w=.ok r w) (hl:(eqParts d xs ys l).run P w=.ok s w) :
 (eqParts d xs ys ((true,t,o)::l)).run P w=.ok (r && s) w:=by
 rw [eqParts,Sem.run_bind,ha,Result.andThen_ok,Sem.run_bind,hb,Result.andThen_ok,Sem.run_bind,hr,Result.andThen_ok]
 cases r
 ·simp
 ·simpa using hl
theorem run_part_int {P:Program} (w:World) (t:TypeId) (k:IntKind) (hu:P.underlying t=some (.int k)) (xs:Array Value) (o:Nat) (v:Value) (h:xs[o]?=some v):(part t xs o).run P w=.ok v w:=by
 simp [part,isAgg,run_underlying hu,h]
theorem run_part_arr {P:Program} (w:World) (t e:TypeId) (n m:Nat) (hu:P.underlying t=some (.array n e)) (hs:(P.info? t).map (·.size)=some m) (xs:Array Value) (o:Nat) (R:Array Value) (h:xs.extract o (o+m)=R):(part t xs o).run P w=.ok (.agg R) w:=by
 cases hq:P.info? t with
 | none=>simp [hq] at hs
 | some q=>
  have hm:q.size=m:=by simpa [hq] using hs
  simp [part,isAgg,run_underlying hu,sizeOf,typeInfo,hq,hm,h]
end Mem
end Go.Proofs.YtplmfmpbkjnbaaaGreatDoor
namespace Go.Proofs.YtplmfmpbkjnbaaaGreatDoor
namespace Sha
theorem rotl_nat (x:BitVec 32) (r:Nat) (h:r < 32):(x.rotateLeft r).toNat=x.toNat*2 ^ r % 2 ^ 32+x.toNat / 2 ^ (32 - r):=by
 have hlt:x.toNat / 2 ^ (32 - r) < 2 ^ r:=by
  have:=x.isLt
  have e:2 ^ 32=2 ^ (32 - r)*2 ^ r:=by rw [←Nat.pow_add];congr 1;omega
  rw [e] at this
  exact Nat.div_lt_of_lt_mul this
 have e1:x.toNat*2 ^ r % 2 ^ 32=2 ^ r*(x.toNat % 2 ^ (32 - r)):=by
  have e:2 ^ 32=2 ^ (32 - r)*2 ^ r:=by rw [←Nat.pow_add];congr 1;omega
  rw [e,Nat.mul_mod_mul_right,Nat.mul_comm]
 rw [BitVec.toNat_rotateLeft,Nat.mod_eq_of_lt h,Nat.shiftRight_eq_div_pow,Nat.shiftLeft_eq,e1,←Nat.two_pow_add_eq_or_of_lt hlt]
theorem rotl_zero (x:BitVec 32):x.rotateLeft 0=x:=by
 apply BitVec.eq_of_toNat_eq
 rw [rotl_nat x 0 (by decide)]
 have:=x.isLt
 omega
theorem rotl_step (x:BitVec 32) (r:Nat) (h:r < 31):(x.rotateLeft r).toNat*2 % 2 ^ 32+(x.rotateLeft r).toNat / 2147483648=(x.rotateLeft (r+1)).toNat:=by
 rw [rotl_nat x r (by omega),rotl_nat x (r+1) (by omega)]
 have hx:=x.isLt
 have e2:32 - (r+1)=31 - r:=by omega
 have e3:2 ^ (32 - r)=2*2 ^ (31 - r):=by rw [←Nat.pow_succ'];congr 1;omega
 have e1:2 ^ 32=2 ^ r*(2*2 ^ (31 - r)):=by rw [←e3,←Nat.pow_add];congr 1;omega
 have em:x.toNat*2 ^ r % 2 ^ 32=2 ^ r*(x.toNat % (2*2 ^ (31 - r))):=by rw [e1,Nat.mul_comm (x.toNat),Nat.mul_mod_mul_left]
 have em2:x.toNat*2 ^ (r+1) % 2 ^ 32=2*2 ^ r*(x.toNat % 2 ^ (31 - r)):=by
  have e5:2 ^ 32=2*2 ^ r*2 ^ (31 - r):=by rw [e1];simp only [Nat.mul_assoc,Nat.mul_left_comm]
  rw [e5,Nat.pow_succ,Nat.mul_comm (x.toNat),Nat.mul_comm (2 ^ r) 2,Nat.mul_mod_mul_left]
 rw [em,em2,e2,e3]
 have hP:0 < 2 ^ (31 - r):=Nat.two_pow_pos _
 have hR:0 < 2 ^ r:=Nat.two_pow_pos _
 have hRP:2 ^ r*2 ^ (31 - r)=2147483648:=by rw [←Nat.pow_add,show r+(31 - r)=31 by omega]
 generalize 2 ^ (31 - r)=P at *
 generalize 2 ^ r=R at *
 obtain ⟨m,hm⟩:∃ m,m=x.toNat % P:=⟨_,rfl⟩
 obtain ⟨q,hq⟩:∃ q,q=x.toNat / P:=⟨_,rfl⟩
 have hxq:x.toNat=P*q+m:=by rw [hm,hq,Nat.div_add_mod]
 have hmP:m < P:=by rw [hm];exact Nat.mod_lt _ hP
 have d2:x.toNat / (2*P)=q / 2:=by rw [Nat.mul_comm,←Nat.div_div_eq_div_mul,←hq]
 have m2:x.toNat % (2*P)=q % 2*P+m:=by
  have h0:=Nat.div_add_mod x.toNat (2*P)
  rw [d2] at h0
  have h1:P*q=2*P*(q / 2)+P*(q % 2):=by
   have:=Nat.div_add_mod q 2
   calc P*q=P*(2*(q / 2)+q % 2):=by rw [this]
    _=2*P*(q / 2)+P*(q % 2):=by rw [Nat.mul_add,←Nat.mul_assoc,Nat.mul_comm P 2]
  have h2:P*(q % 2)=q % 2*P:=Nat.mul_comm _ _
  omega
 rw [d2,m2,←hq,←hm]
 have hq2:q / 2 < R:=by
  have hq3:q < 2*R:=by
   rw [hq]
   apply Nat.div_lt_of_lt_mul
   have:P*(2*R)=2*(R*P):=by rw [Nat.mul_left_comm,Nat.mul_comm P R]
   rw [this,hRP];omega
  omega
 have hRm:R*m < R*P:=Nat.mul_lt_mul_of_pos_left hmP hR
 have e6:R*(q % 2*P+m)=q % 2*2147483648+R*m:=by rw [Nat.mul_add,Nat.mul_left_comm,hRP]
 have e7:2*R*m=2*(R*m):=Nat.mul_assoc _ _ _
 rw [e6,e7]
 rw [hRP] at hRm
 have hl:R*m+q / 2 < 2147483648:=by
  have hm1:m+1≤P:=hmP
  have h1:R*(m+1)≤R*P:=Nat.mul_le_mul_left _ hm1
  rw [hRP,Nat.mul_add,Nat.mul_one] at h1
  omega
 rcases Nat.mod_two_eq_zero_or_one q with h0 | h0 <;> rw [h0] <;> omega
theorem lf_val (x:BitVec 32) (r:Nat) (h:r < 31):(V (x.rotateLeft r)*2+V (x.rotateLeft r) / 2147483648) % (4294967296:Int)=V (x.rotateLeft (r+1)):=by
 have e:=rotl_step x r h
 have h1:=(x.rotateLeft (r+1)).isLt
 unfold V
 omega
end Sha
end Go.Proofs.YtplmfmpbkjnbaaaGreatDoor
namespace Go.Proofs.YtplmfmpbkjnbaaaGreatDoor
namespace Mem
open Go.RowKit
theorem wpList_load_is_wanted {P:Program} {ops:Array Oper} {rest:List Oper} {o:Oper} {a:Act} {w:World} {Q:Exit→Act→World→Prop} (hw:Region.wanted o (yielded ops a.tmps)=true) (ty:TypeId) (x:Operand) (hop:o.op=.load ty x)
 (b c n:Nat) (hx:a.eval x=.pointer (some ⟨b,c,none⟩)) (d:TypeDesc) (hu:P.underlying ty=some d) (hd:d.isRow=true) (hi:(P.info? ty).map (·.size)=some n)
 (C:Array Value) (t:TypeId) (hC:At w b C t) (hn:c+n≤C.size) (R:Array Value) (hR:C.extract c (c+n)=R) (h:wpList P ops Q rest (a.put o.dst (.agg R)) w):wpList P ops Q (o::rest) a w:=by
 unfold wpList
 rw [if_pos hw]
 left
 unfold Oper.wp
 have hr:=run_loadAt_mid (P:=P) w b c ty (C.extract c (c+n)).toList d (hC.range c n) hu hd (by rw [hi];simp;omega)
 have:(execOp a.eval o).run P w=.ok (.value (.agg R)) w:=by
  unfold execOp
  simp only [hop,hx,Sem.run_bind,hr,Result.andThen_ok,Sem.run_pure]
  simp [hR]
 rw [this]
 exact h
end Mem
end Go.Proofs.YtplmfmpbkjnbaaaGreatDoor
namespace Go.Proofs.YtplmfmpbkjnbaaaGreatDoor
namespace Sha
def joinB (a b:List (BitVec 8)):List (BitVec 8):=List.zipWith (· ^^^ ·) a b
def joinTo (a b:List (BitVec 8)) (i:Nat):List (BitVec 8):=(joinB a b).take i++a.drop i
theorem joinB_length (a b:List (BitVec 8)) (h:a.length=b.length):(joinB a b).length=a.length:=by simp [joinB,h]
theorem joinTo_length (a b:List (BitVec 8)) (h:a.length=b.length) (i:Nat):(joinTo a b i).length=a.length:=by
 simp [joinTo,joinB,h];omega
theorem joinTo_zero (a b:List (BitVec 8)):joinTo a b 0=a:=by simp [joinTo]
theorem joinTo_all (a b:List (BitVec 8)) (h:a.length=b.length):joinTo a b a.length=joinB a b:=by
 unfold joinTo
 rw [List.take_of_length_le (by rw [joinB_length a b h];omega),List.drop_length,List.append_nil]
theorem joinTo_get (a b:List (BitVec 8)) (h:a.length=b.length) (i:Nat) (hi:i < a.length):(joinTo a b i).getD i 0=a.getD i 0:=by
 unfold joinTo
 rw [List.getD_eq_getElem?_getD,List.getD_eq_getElem?_getD,List.getElem?_append_right (by rw [List.length_take,joinB_length a b h];omega)]
 rw [List.length_take,joinB_length a b h,Nat.min_eq_left (Nat.le_of_lt hi)]
 simp
theorem joinB_get (a b:List (BitVec 8)) (h:a.length=b.length) (i:Nat) (hi:i < a.length):(joinB a b).getD i 0=a.getD i 0 ^^^ b.getD i 0:=by
 have hb:i < b.length:=by omega
 simp [joinB,List.getD_eq_getElem?_getD,List.getElem?_zipWith,hi,hb]
theorem joinB_next (a b:List (BitVec 8)) (h:a.length=b.length) (i:Nat) (hi:i < a.length):(joinB a b).take (i+1)=(joinB a b).take i++[a.getD i 0 ^^^ b.getD i 0]:=by
 have hl:i < (joinB a b).length:=by rw [joinB_length a b h];exact hi
 rw [List.take_succ_eq_append_getElem hl,←joinB_get a b h i hi]
 simp [hl]
theorem joinTo_set (a b:List (BitVec 8)) (h:a.length=b.length) (i:Nat) (hi:i < a.length):(joinTo a b i).set i (a.getD i 0 ^^^ b.getD i 0)=joinTo a b (i+1):=by
 unfold joinTo
 rw [joinB_next a b h i hi,List.set_append_right _ _ (by rw [List.length_take,joinB_length a b h];omega),List.length_take,joinB_length a b h,Nat.min_eq_left (Nat.le_of_lt hi),Nat.sub_self,List.drop_eq_getElem_cons hi,List.set_cons_zero,List.append_assoc]
 rfl
end Sha
end Go.Proofs.YtplmfmpbkjnbaaaGreatDoor
namespace Go.Proofs.YtplmfmpbkjnbaaaGreatDoor
namespace Sha
open Go.RowKit
theorem rotl_val (x:BitVec 32) (k:Nat) (hk:k < 32) :
 bits BinOp.or IntKind.u32 (V x*2 ^ k % 4294967296) (V x / 2 ^ (32 - k))=V (x.rotateLeft k):=by
 have e1:V x*2 ^ k % 4294967296=V (x <<< k):=by
  unfold V
  rw [BitVec.toNat_shiftLeft,Nat.shiftLeft_eq]
  show _=((x.toNat*2 ^ k % 4294967296:Nat):Int)
  rw [Int.natCast_emod,Int.natCast_mul,Int.natCast_pow];rfl
 have e2:V x / 2 ^ (32 - k)=V (x >>> (32 - k)):=by
  unfold V
  rw [BitVec.toNat_ushiftRight,Nat.shiftRight_eq_div_pow,Int.natCast_ediv,Int.natCast_pow];rfl
 rw [e1,e2,r_or,BitVec.rotateLeft_def,Nat.mod_eq_of_lt hk]
theorem rotl_any (x:BitVec 32) (n:Int) (k:Nat) (w:World) (hk:bits BinOp.and IntKind.u64 (IntKind.u64.wrap n) 31=(k:Int)) (hk':k < 32) :
 Calls Tryz.prog 214 #[.int .u32 (V x),.int .i64 n] w fun e w'=>e=.returned (.int .u32 (V (x.rotateLeft k)))∧w=w':=by
 have hv0:=V_lo x
 have hv1:=V_hi x
 go_enter Tryz.func214,Tryz.ntmps214
 go_wp2
 go_ret
 exact ⟨congrArg (fun q=>Ending.returned (.int .u32 q)) (rotl_val x k hk'),rfl⟩
theorem tailSize_any (C:Array Value) (n:Nat) (w:World) (h1:C[72]?=some (.int .u64 n)) :
 Calls Tryz.prog 204 #[.agg C] w fun e w'=>e=.returned (.int .i64 (n % 64:Nat))∧Below w.heap.size w w':=by
 have h2:n % 64 < 64:=Nat.mod_lt _ (by decide)
 go_enter Tryz.func204,Tryz.ntmps204
 go_wp2
 go_ret
 exact ⟨rfl,(Below.refl _ _).alloc (Nat.le_refl _) _⟩
theorem turn_any (x:BitVec 32) (n:Int) (r:Nat) (w:World) (hr:(n % 32).toNat=r) (_h0:-9223372036854775808≤n) (_h1:n≤9223372036854775807) :
 Calls Tryz.prog 210 #[.int .u32 (V x),.int .i64 n] w fun e w'=>e=.returned (.int .u32 (V (x.rotateRight r)))∧w=w':=by
 have ht:n.tmod 32=n % 32∨(n.tmod 32=n % 32 - 32∧n % 32≠0):=by
  rw [Int.tmod_eq_emod]
  split
  ·left;omega
  ·rename_i h
   right
   refine ⟨by simp,fun e=>h (Or.inr (Int.dvd_of_emod_eq_zero e))⟩
 have hm:-32 < n.tmod 32∧n.tmod 32 < 32:=by omega
 have hk:(-n.tmod 32 % 32).toNat=(32 - r) % 32:=by omega
 have hr32:r < 32:=by omega
 have hw:wrap64 (-n.tmod 32)=-n.tmod 32:=IntWalk.wrap64_in _ (by omega)
 have c:Calls Tryz.prog 214 #[.int .u32 (V x),.int .i64 (wrap64 (-n.tmod 32))] w fun e w'=>e=.returned (.int .u32 (V (x.rotateRight r)))∧w=w':=by
  rw [hw,←rotr_rotl x r hr32,←hk]
  exact rotl_any x _ _ w (and31 _) (by omega)
 clear ht hm hk hw
 have HR:=Lib.hid hr;clear hr
 have C:=Lib.hid c;clear c
 go_enter Tryz.func210,Tryz.ntmps210
 go_wp2_with (go_at_call 214;refine C.out.mono ?_;rintro e w' ⟨rfl,rfl⟩)
 go_ret
 exact ⟨rfl,rfl⟩
end Sha
end Go.Proofs.YtplmfmpbkjnbaaaGreatDoor
namespace Go.Proofs.YtplmfmpbkjnbaaaGreatDoor
namespace Mem
variable {P:Program}
theorem still_of_quiet {ops:Array Oper} {w:World} {Q:Act→Prop}:∀ (l:List Oper) (a:Act),wpQuiet P ops (fun w'=>w'=w) Q l a→wpStill P ops w Q l a
 | [],_,h=>h
 | o::rest,a,h=>by
  unfold wpQuiet at h
  unfold wpStill
  split
  ·rename_i hw
   rw [if_pos hw] at h
   obtain ⟨v,h1,h2⟩:=h
   have h3:=h1 w rfl
   unfold Oper.quietAt at h3
   unfold Oper.still
   generalize (execOp a.eval o).run P w=r at h3
   cases r with
   | ok x w'=>
    cases x <;> simp only [Oper.quietUpon] at h3 <;> simp only [Oper.stillUpon]
    case value u=>exact ⟨h3.1,by rw [h3.2];exact still_of_quiet rest _ h2⟩
    case skip=>exact ⟨h3.1,by rw [←h3.2];exact still_of_quiet rest _ h2⟩
    case enter f args=>exact ⟨h3.1,v,h3.2,still_of_quiet rest _ h2⟩
   | halt x w'=>simp only [Oper.quietUpon] at h3
  ·rename_i hw
   rw [if_neg hw] at h
   exact still_of_quiet rest _ h
theorem wp_region_quiet_tail {id:Nat} {Q:Exit→Act→World→Prop} {a:Act} {w:World} {l:List Oper} (n:Nat) (hm:P.follows .mixedOrders=true) (hB:Region.lexTailB .any l.toArray n=true)
 (h:wpQuiet P l.toArray (fun w'=>w'=w.drew) (fun a'=>wpList P l.toArray Q (l.drop n) a' w.drew) (l.take n) a):(Code.region id l.toArray true).wp P Q a w:=
 wp_region_still_tail n hm hB (still_of_quiet _ _ h)
end Mem
end Go.Proofs.YtplmfmpbkjnbaaaGreatDoor
namespace Go.Proofs.YtplmfmpbkjnbaaaGreatDoor
namespace Sha
open Go.RowKit Mem
def wrow (l:List (BitVec 32)):Array Value:=(u32s (l++List.replicate (64 - l.length) 0)).toArray
def Z64:Array Value:=wrow []
theorem zero64 (w:World):(zeroValue 302).run Tryz.prog w=.ok (.agg Z64) w:=by kernel_rfl
theorem wrow_get (l:List (BitVec 32)) (i:Nat) (h:i < 64) (hl:l.length≤64):(wrow l)[i]?=some (.int .u32 (V (l.getD i 0))):=by
 unfold wrow
 rw [List.getElem?_toArray]
 rw [u32s_get _ i (by simp;omega)]
 have e:(l++List.replicate (64 - l.length) 0).getD i 0=l.getD i 0:=?_
 ·rw [e]
 simp only [List.getD_eq_getElem?_getD,List.getElem?_append]
 split
 ·rfl
 ·rename_i h'
  rw [List.getElem?_replicate,List.getElem?_eq_none (by omega)]
  split <;> rfl
theorem wrow_set (l:List (BitVec 32)) (x:BitVec 32) (hl:l.length < 64):(wrow l).setIfInBounds l.length (.int .u32 (V x))=wrow (l++[x]):=by
 unfold wrow u32s
 rw [List.setIfInBounds_toArray]
 congr 1
 have e:64 - l.length=(64 - (l++[x]).length)+1:=by simp;omega
 rw [e,List.replicate_succ]
 simp
theorem wrow_size (l:List (BitVec 32)) (h:l.length≤64):(wrow l).size=64:=by
 simp [wrow,u32s];omega
theorem info64:(Tryz.prog.info? 302).map (·.size)=some 64:=by kernel_rfl
structure SInv (B:Nat) (A:Array Value) (l:List (BitVec 32)) (w wr:World):Prop where
 a:At wr B A 259
 r:At wr (B+1) Z64 302
 v:At wr (B+2) (wrow l) 302
 b:Below B w wr
theorem sched_any (T:Lb8) (hT:T.length=64) (w:World) :
 Calls Tryz.prog 209 #[.agg (u8s T).toArray] w fun e w'=>e=.returned (.agg (u32s (sched T)).toArray)∧Below w.heap.size w w':=by
 obtain ⟨A,hA⟩:∃ A,A=(u8s T).toArray:=⟨_,rfl⟩
 obtain ⟨Z,hZ⟩:∃ Z,Z=Z64:=⟨_,rfl⟩
 rw [←hA]
 have hz:=zero64
 rw [←hZ] at hz
 have HA:=zh hA;have HZ:=zh hZ;have HT:=zh hT;clear hA hZ hT
 go_enter Tryz.func209,Tryz.ntmps209
 go_wp2_with fail
 go_loopw [4,10] (fun _ v10 wr=>∃ k:Nat,k≤16∧v10=.int .i64 k∧SInv w.heap.size A (wds T k) w wr) (fun _ v10 _=>16 - (intOf v10).toNat)
 case atStart=>
  refine ⟨0,by omega,rfl,?_,?_,?_,?_⟩
  ·exact ((at_new w A _).alloc _).alloc _
  ·rw [←HZ.out]
   have:=(at_new (w.alloc (.cells A 259)) Z 302).alloc (.cells Z 302)
   simpa using this
  ·have e:wrow (wds T 0)=Z:=HZ.out.symm
   rw [e]
   have:=at_new ((w.alloc (.cells A 259)).alloc (.cells Z 302)) Z 302
   simpa using this
  ·exact (((Below.refl _ _).alloc (Nat.le_refl _) _).alloc (by simp) _).alloc (by simp;omega) _
 case round=>
  obtain ⟨k,hk,rfl,hI⟩:=hrel
  by_cases hlt:k < 16
  ·have key:∀ j,j < 4→wr.cell? ⟨w.heap.size,4*k+j,none⟩=some (.int .u8 ((T.getD (4*k+j) 0).toNat:Int)):=fun j hj=>by
    rw [hI.a.cell,HA.out,List.getElem?_toArray]
    exact u8s_get T _ (by rw [HT.out];omega)
   have c0:=key 0 (by omega)
   have c1:=key 1 (by omega)
   have c2:=key 2 (by omega)
   have c3:=key 3 (by omega)
   clear key
   obtain ⟨b0,e0⟩:∃ b,b=T.getD (4*k) 0:=⟨_,rfl⟩
   obtain ⟨b1,e1⟩:∃ b,b=T.getD (4*k+1) 0:=⟨_,rfl⟩
   obtain ⟨b2,e2⟩:∃ b,b=T.getD (4*k+2) 0:=⟨_,rfl⟩
   obtain ⟨b3,e3⟩:∃ b,b=T.getD (4*k+3) 0:=⟨_,rfl⟩
   rw [Nat.add_zero,←e0] at c0
   rw [←e1] at c1
   rw [←e2] at c2
   rw [←e3] at c3
   have E:=zh (And.intro e0 (And.intro e1 (And.intro e2 e3)))
   clear e0 e1 e2 e3
   have l0:=b0.isLt
   have l1:=b1.isLt
   have l2:=b2.isLt
   have l3:=b3.isLt
   have hf:wr.frozen? ⟨w.heap.size+1+1,k,none⟩=false:=hI.v.free k
   have hdr:wr.drew.heap=wr.heap:=rfl
   have hc:wr.cell? ⟨w.heap.size+1+1,k,none⟩=some (.int .u32 0):=by
    rw [show w.heap.size+1+1=w.heap.size+2 from rfl,hI.v.cell,wrow_get _ k (by omega) (by rw [wds_length];omega)]
    rw [List.getD_eq_getElem?_getD,List.getElem?_eq_none (by rw [wds_length];omega)];rfl
   go_wp2_with fail
   refine wp_region_quiet_tail 31 (by kernel_rfl) (by kernel_rfl) ?_
   simp only [List.take_succ_cons,List.take_zero,List.drop_succ_cons,List.drop_zero]
   repeat (go_big_quiet_step (fail))
   refine wpQuiet_nil ?_
   go_wp2_with fail
   go_roundw
   case rel=>
    refine ⟨k+1,by omega,by go_num,?_⟩
    rw [word_val]
    refine ⟨(hI.a.set_other _ _ (by simp;omega)).drew,(hI.r.set_other _ _ (by simp)).drew,?_,(hI.b.setCell (by simp;omega) _).drew⟩
    have e:=wrow_set (wds T k) (word T k) (by rw [wds_length];omega)
    rw [wds_length] at e
    have hv:=hI.v.set k (.int .u32 (V (word T k)))
    rw [e] at hv
    obtain ⟨e0,e1,e2,e3⟩:=E.out
    rw [e0,e1,e2,e3]
    exact hv.drew
   case measure=>simp [intOf];omega
  ·have hk16:k=16:=by omega
   rw [hk16] at hI
   have hge:¬ (k:Int) < 16:=by omega
   clear hk16 hk hlt
   go_wp2_with fail
   obtain ⟨wo,rfl⟩:∃ wo:World,wo=wr:=⟨_,rfl⟩
   go_loopw [5] (fun v5 wq=>∃ j:Nat,j≤48∧v5=.int .i64 ((j:Int)+16)∧SInv w.heap.size A (ext (wds T 16) j) w wq) (fun v5 _=>64 - (intOf v5).toNat)
   case atStart=>exact ⟨0,by omega,rfl,hI⟩
   case round=>
    clear hI
    obtain ⟨j,hj,rfl,hI⟩:=hrel
    by_cases hlt:j < 48
    ·have hlen:(ext (wds T 16) j).length=j+16:=by rw [ext_length,wds_length];omega
     have key:∀ i,i < 64→wr.cell? ⟨w.heap.size+1+1,i,none⟩=some (.int .u32 (V ((ext (wds T 16) j).getD i 0))):=fun i hi=>by
      rw [show w.heap.size+1+1=w.heap.size+2 from rfl,hI.v.cell,wrow_get _ i hi (by omega)]
     obtain ⟨x,hx⟩:∃ x,x=(ext (wds T 16) j).getD (j+14) 0:=⟨_,rfl⟩
     obtain ⟨y,hy⟩:∃ y,y=(ext (wds T 16) j).getD (j+1) 0:=⟨_,rfl⟩
     obtain ⟨z,hz'⟩:∃ z,z=(ext (wds T 16) j).getD (j+9) 0:=⟨_,rfl⟩
     obtain ⟨v,hv⟩:∃ v,v=(ext (wds T 16) j).getD j 0:=⟨_,rfl⟩
     have c2:=key (j+14) (by omega)
     have c15:=key (j+1) (by omega)
     have c7:=key (j+9) (by omega)
     have c16:=key j (by omega)
     have hc:=key (j+16) (by omega)
     rw [←hx] at c2
     rw [←hy] at c15
     rw [←hz'] at c7
     rw [←hv] at c16
     obtain ⟨o,ho⟩:∃ o:Int,o=V ((ext (wds T 16) j).getD (j+16) 0):=⟨_,rfl⟩
     rw [←ho] at hc
     have hf:wr.frozen? ⟨w.heap.size+1+1,j+16,none⟩=false:=hI.v.free _
     have E:=zh (And.intro hx (And.intro hy (And.intro hz' hv)))
     have HL:=zh hlen
     clear hx hy hz' hv key ho hlen
     have s2:IntKind.i64.wrap ((j:Int)+16 - 2)=(j:Int)+14:=by rw [IntWalk.i64_in _ (by omega)];omega
     have s15:IntKind.i64.wrap ((j:Int)+16 - 15)=(j:Int)+1:=by rw [IntWalk.i64_in _ (by omega)];omega
     have s7:IntKind.i64.wrap ((j:Int)+16 - 7)=(j:Int)+9:=by rw [IntWalk.i64_in _ (by omega)];omega
     have s16:IntKind.i64.wrap ((j:Int)+16 - 16)=(j:Int):=by rw [IntWalk.i64_in _ (by omega)];omega
     have q0:0≤(j:Int):=by omega
     have q1:0≤(j:Int)+1:=by omega
     have q9:0≤(j:Int)+9:=by omega
     have q14:0≤(j:Int)+14:=by omega
     have i14:(j:Int)+14 < 64:=by omega
     have i9:(j:Int)+9 < 64:=by omega
     have i1:(j:Int)+1 < 64:=by omega
     have i0:(j:Int) < 64:=by omega
     have n14:((j:Int)+14).toNat=j+14:=by omega
     have n9:((j:Int)+9).toNat=j+9:=by omega
     have n1:((j:Int)+1).toNat=j+1:=by omega
     go_wp2_with fail
     go_quiet (fail)
     go_wp2_with (go_at_call 210;first | ((with_reducible refine (turn_any _ 17 17 _ rfl (by decide) (by decide)).mono ?_);rintro e w' ⟨rfl,rfl⟩) | ((with_reducible refine (turn_any _ 19 19 _ rfl (by decide) (by decide)).mono ?_);rintro e w' ⟨rfl,rfl⟩) | ((with_reducible refine (turn_any _ 7 7 _ rfl (by decide) (by decide)).mono ?_);rintro e w' ⟨rfl,rfl⟩) | ((with_reducible refine (turn_any _ 18 18 _ rfl (by decide) (by decide)).mono ?_);rintro e w' ⟨rfl,rfl⟩))
     refine wp_region_quiet_tail 15 (by kernel_rfl) (by kernel_rfl) ?_
     simp only [List.take_succ_cons,List.take_zero,List.drop_succ_cons,List.drop_zero]
     repeat (go_big_quiet_step (fail))
     refine wpQuiet_nil ?_
     go_wp2_with fail
     go_roundw
     case rel=>
      refine ⟨j+1,by omega,by go_num,?_⟩
      rw [r_xor,r_xor,shr10,shr3,r_xor,r_xor,r_add4]
      have hlen:=HL.out
      have e:=wrow_set (ext (wds T 16) j) (nextW (ext (wds T 16) j)) (by omega)
      rw [hlen] at e
      have hv:=At.set (w:=wr.drewN (nq+1)) hI.v (j+16) (.int .u32 (V (nextW (ext (wds T 16) j))))
      rw [e] at hv
      refine ⟨At.set_other (w:=wr.drewN (nq+1)) hI.a _ _ (by simp;omega),At.set_other (w:=wr.drewN (nq+1)) hI.r _ _ (by simp),?_,(Below.drewN' hI.b).setCell (by simp;omega) _⟩
      obtain ⟨ex,ey,ez,ev⟩:=E.out
      have en:nextW (ext (wds T 16) j)=(x.rotateRight 17 ^^^ x.rotateRight 19 ^^^ (x >>> 10))+z+(y.rotateRight 7 ^^^ y.rotateRight 18 ^^^ (y >>> 3))+v:=by
       unfold nextW s0 s1
       rw [hlen,show j+16 - 2=j+14 from rfl,show j+16 - 15=j+1 from rfl,show j+16 - 7=j+9 from rfl,show j+16 - 16=j from rfl,←ex,←ey,←ez,←ev]
      rw [←en]
      exact hv
     case measure=>simp [intOf];omega
    ·have hj48:j=48:=by omega
     rw [hj48] at hI
     have hge':¬ (j:Int)+16 < 64:=by omega
     clear hj48 hj hlt
     have hv:At wr (w.heap.size+1+1) (wrow (ext (wds T 16) 48)) 302:=hI.v
     have hr:At wr (w.heap.size+1) Z64 302:=hI.r
     have hb:=hI.b
     have hsz:(wrow (ext (wds T 16) 48)).size=64:=wrow_size _ (by rw [ext_length,wds_length];omega)
     have hfin:wrow (ext (wds T 16) 48)=(u32s (sched T)).toArray:=by
      have:(ext (wds T 16) 48).length=64:=by rw [ext_length,wds_length]
      unfold wrow sched;rw [this];simp
     have HF:=zh hfin;clear hfin
     generalize wrow (ext (wds T 16) 48)=D at *
     have HV:=zh hv;have HR:=zh hr;have HB:=zh hb;have HS:=zh hsz
     have h1:D.all (·.oneCell')=true:=by rw [HF.out];exact u32s_one _
     have H1:=zh h1
     clear hv hr hb hsz hI h1
     go_wp2_with (first | (refine wpList_load_all zr 302 _ zr _ zr _ Tryz.underlying302 zr _ _ HV.out (by rw [HS.out];exact info64) ?_) | (refine wpList_store_all zr 302 _ _ zr zr _ _ zr zr (by rw [HS.out];exact info64) _ _ HR.out (by rw [HS.out];rfl) H1.out ?_))
     try simp only [Exit.inBlock,Exit.then]
     refine ret_row zr (w.heap.size+1) 302 D _ zr (HR.out.row D) Tryz.underlying302 zr (by rw [HS.out];exact info64) ?_
     exact ⟨by rw [HF.out],below_row HB.out (by omega) D⟩
def addB (H:List (BitVec 32)) (T:Lb8):List (BitVec 32):=adds H (rnds (sched T) (regOf (adds IVl H)) 64).list
def zs64:Lb8:=List.replicate 64 0
structure Fed where
 H:List (BitVec 32)
 T:Lb8
 at':Nat
def feed (s:Fed) (b:BitVec 8):Fed:=
 if s.at'+1=64 then ⟨addB s.H (s.T.set s.at' b),zs64,0⟩ else ⟨s.H,s.T.set s.at' b,s.at'+1⟩
def feeds (s:Fed) (l:Lb8):Fed:=l.foldl feed s
structure Ok (s:Fed):Prop where
 h:s.H.length=8
 t:s.T.length=64
 a:s.at' < 64
theorem addB_length (H:List (BitVec 32)) (T:Lb8) (h:H.length=8):(addB H T).length=8:=by
 simp [addB,adds,h,Reg.list]
theorem feed_ok {s:Fed} (h:Ok s) (b:BitVec 8):Ok (feed s b):=by
 unfold feed
 split
 ·exact ⟨addB_length _ _ h.h,by simp [zs64],by simp⟩
 ·exact ⟨h.h,by simp [h.t],by have:=h.a;simp;omega⟩
theorem feeds_ok:∀ (l:Lb8) {s:Fed},Ok s→Ok (feeds s l)
 | [],_,h=>h
 | b::l,_,h=>feeds_ok l (feed_ok h b)
theorem feeds_append (s:Fed) (l m:Lb8):feeds s (l++m)=feeds (feeds s l) m:=by simp [feeds]
def lay (T:Lb8) (a:Nat) (c:Lb8):Lb8:=T.take a++c++T.drop (a+c.length)
theorem lay_nil (T:Lb8) (a:Nat):lay T a []=T:=by simp [lay]
theorem lay_length (T:Lb8) (a:Nat) (c:Lb8) (h:a+c.length≤T.length):(lay T a c).length=T.length:=by
 simp [lay];omega
theorem lay_cons (T:Lb8) (a:Nat) (b:BitVec 8) (c:Lb8) (h:a < T.length):lay (T.set a b) (a+1) c=lay T a (b::c):=by
 unfold lay
 have e1:(T.set a b).take (a+1)=T.take a++[b]:=by
  rw [List.take_succ_eq_append_getElem (by simpa using h),List.take_set_of_le (Nat.le_refl a)]
  simp
 rw [e1,List.drop_set_of_lt (by omega)]
 simp
 omega
theorem feeds_part:∀ (c:Lb8) (s:Fed),s.T.length=64→s.at'+c.length < 64→feeds s c=⟨s.H,lay s.T s.at' c,s.at'+c.length⟩
 | [],s,_,_=>by simp [feeds,lay_nil]
 | b::c,s,hT,h=>by
  simp only [List.length_cons] at h
  have e:feed s b=⟨s.H,s.T.set s.at' b,s.at'+1⟩:=by unfold feed;rw [if_neg (by omega)]
  have ih:=feeds_part c ⟨s.H,s.T.set s.at' b,s.at'+1⟩ (by simpa using hT) (by simp;omega)
  rw [feeds,List.foldl_cons,e]
  rw [feeds] at ih
  rw [ih,lay_cons _ _ _ _ (by omega)]
  simp;omega
theorem feeds_full:∀ (c:Lb8) (s:Fed),s.T.length=64→s.at' < 64→s.at'+c.length=64→feeds s c=⟨addB s.H (lay s.T s.at' c),zs64,0⟩
 | [],s,_,h0,h=>by simp at h;omega
 | [b],s,hT,h0,h=>by
  simp at h
  have e:feed s b=⟨addB s.H (s.T.set s.at' b),zs64,0⟩:=by unfold feed;rw [if_pos (by omega)]
  rw [feeds,List.foldl_cons,e,List.foldl_nil,←lay_cons _ _ _ _ (by omega),lay_nil]
 | b::b'::c,s,hT,h0,h=>by
  simp only [List.length_cons] at h
  have e:feed s b=⟨s.H,s.T.set s.at' b,s.at'+1⟩:=by unfold feed;rw [if_neg (by omega)]
  have ih:=feeds_full (b'::c) ⟨s.H,s.T.set s.at' b,s.at'+1⟩ (by simpa using hT) (by simp;omega) (by simp;omega)
  rw [feeds,List.foldl_cons,e]
  rw [feeds] at ih
  rw [ih,lay_cons _ _ _ _ (by omega)]
/-! ### the row of a state -/
def stL (H:List (BitVec 32)) (T:Lb8) (n:Nat):List Value:=u32s H++u8s T++[.int .u64 (n:Int)]
def stRow (H:List (BitVec 32)) (T:Lb8) (n:Nat):Array Value:=(stL H T n).toArray
theorem stRow_size {H:List (BitVec 32)} {T:Lb8} {n:Nat} (h:H.length=8) (t:T.length=64):(stRow H T n).size=73:=by
 simp [stRow,stL,u32s,u8s,h,t]
theorem stRow_n {H:List (BitVec 32)} {T:Lb8} {n:Nat} (h:H.length=8) (t:T.length=64):(stRow H T n)[72]?=some (.int .u64 (n:Int)):=by
 simp [stRow,stL,u32s,u8s,h,t]
theorem stRow_set {H:List (BitVec 32)} {T:Lb8} {n m:Nat} (h:H.length=8) (t:T.length=64):(stRow H T n).setIfInBounds 72 (.int .u64 (m:Int))=stRow H T m:=by
 simp [stRow,stL,u32s,u8s,h,t]
theorem stRow_H {H:List (BitVec 32)} {T:Lb8} {n:Nat} (h:H.length=8):(stRow H T n).extract 0 (0+8)=(u32s H).toArray:=by
 have e:(u32s H).length=8:=by rw [u32s_length,h]
 simp [stRow,stL,e]
theorem stRow_T {H:List (BitVec 32)} {T:Lb8} {n:Nat} (h:H.length=8) (t:T.length=64):(stRow H T n).extract 8 (8+64)=(u8s T).toArray:=by
 have e:(u32s H).length=8:=by rw [u32s_length,h]
 have e':(u8s T).length=64:=by rw [u8s_length,t]
 simp [stRow,stL,e,e']
theorem stRow_putH {H H':List (BitVec 32)} {T:Lb8} {n:Nat} (h:H.length=8) (h':H'.length=8):Mem.splice (stRow H T n) 0 (u32s H')=stRow H' T n:=by
 have e:(u32s H).length=8:=by rw [u32s_length,h]
 have e':(u32s H').length=8:=by rw [u32s_length,h']
 simp [Mem.splice,stRow,stL,e,e']
theorem stRow_putT {H:List (BitVec 32)} {T:Lb8} {n:Nat} (h:H.length=8) (t:T.length=64) (a:Nat) (c:Lb8) (hc:a+c.length≤64):Mem.splice (stRow H T n) (8+a) (u8s c)=stRow H (lay T a c) n:=by
 have e:(u32s H).length=8:=by rw [u32s_length,h]
 have e':(u8s c).length=c.length:=u8s_length c
 have e1:List.take (8+a) (stL H T n)=u32s H++u8s (T.take a):=by
  unfold stL
  rw [List.append_assoc,List.take_append,e,List.take_of_length_le (by omega),List.take_append,u8s_length,t]
  simp [u8s,List.map_take]
  omega
 have e2:List.drop (8+a+c.length) (stL H T n)=u8s (T.drop (a+c.length))++[.int .u64 (n:Int)]:=by
  unfold stL
  rw [List.append_assoc,List.drop_append,e,List.drop_of_length_le (by omega),List.drop_append,u8s_length,t]
  have z:8+a+c.length - 8 - 64=0:=by omega
  have z':8+a+c.length - 8=a+c.length:=by omega
  rw [z,z']
  simp [u8s,List.map_drop]
 unfold Mem.splice
 rw [e',show (stRow H T n).toList=stL H T n from rfl,e1,e2]
 simp [stRow,stL,lay,u8s,List.append_assoc]
/-! ### the padding -/
def padQ (t:Nat):Nat:=if t < 56 then 56 - t else 120 - t
def P0:Lb8:=128::List.replicate 71 0
def lenByte (m i:Nat):BitVec 8:=BitVec.ofNat 8 (m / 2 ^ (56 - 8*i))
def padRow (q m:Nat):Nat→Lb8
 | 0=>P0
 | i+1=>(padRow q m i).set (q+i) (lenByte m i)
def padBytes (n:Nat):Lb8:=(padRow (padQ (n % 64)) (n*8) 8).take (padQ (n % 64)+8)
theorem padRow_length (q m:Nat):∀ i,(padRow q m i).length=72
 | 0=>by simp [padRow,P0]
 | i+1=>by simp [padRow,padRow_length q m i]
theorem padQ_bd (t:Nat) (h:t < 64):1≤padQ t∧padQ t≤64:=by
 unfold padQ;split <;> omega
theorem padBytes_length (n:Nat):(padBytes n).length=padQ (n % 64)+8:=by
 have:=padQ_bd (n % 64) (Nat.mod_lt _ (by decide))
 simp [padBytes,padRow_length];omega
/-! ### the digest's bytes -/
def dRow (l:List (BitVec 32)):Nat→Lb8
 | 0=>List.replicate 32 0
 | i+1=>((((dRow l i).set (4*i) (wb (l.getD i 0) 24)).set (4*i+1) (wb (l.getD i 0) 16)).set (4*i+2) (wb (l.getD i 0) 8)).set (4*i+3) (wb (l.getD i 0) 0)
theorem dRow_length (l:List (BitVec 32)):∀ i,(dRow l i).length=32
 | 0=>by simp [dRow]
 | i+1=>by simp [dRow,dRow_length l i]
def digest (s:Fed) (n:Nat):Lb8:=dRow (adds (feeds s (padBytes n)).H IVl) 8
end Sha
end Go.Proofs.YtplmfmpbkjnbaaaGreatDoor
namespace Go.Proofs.YtplmfmpbkjnbaaaGreatDoor
namespace Sha
open Go.RowKit
def cnt (m:Nat):Nat:=(m+5) / 6
def lvn (p:Nat):Nat→Nat
 | 0=>p
 | 1=>cnt p
 | 2=>cnt (cnt p)
 | _=>cnt (cnt (cnt p))
def stn (p:Nat):Nat→Nat
 | 0=>0
 | 1=>p
 | 2=>p+cnt p
 | 3=>p+cnt p+cnt (cnt p)
 | _=>p+cnt p+cnt (cnt p)+cnt (cnt (cnt p))
def topn (p:Nat):Nat:=if p≤6 then 1 else if p≤36 then 2 else 3
def itn (p:Nat):Nat:=stn p (topn p+1)
def lev (p i:Nat):Nat:=if i < p then 0 else if i < stn p 2 then 1 else if i < stn p 3 then 2 else 3
def fst (p i:Nat):Nat:=stn p (lev p i - 1)+6*(i - stn p (lev p i))
def many (p i:Nat):Nat:=min 6 (stn p (lev p i) - fst p i)
def parN (p i:Nat):Nat × Nat:=(stn p (lev p i+1)+(i - stn p (lev p i)) / 6,(i - stn p (lev p i)) % 6)
def fstZ (p i:Nat):Int:=if i < p then -1 else (fst p i:Int)
def fstL (p n:Nat):List Int:=(List.range n).map (fstZ p)
theorem cnt_le (m:Nat):m≤6*cnt m∧6*cnt m≤m+5:=by unfold cnt;omega
structure Lv (p a b c:Nat):Prop where
 p0:1≤p
 p1:p≤216
 ea:a=cnt p
 eb:b=cnt a
 ec:c=cnt b
theorem lv_of (p:Nat) (h0:1≤p) (h1:p≤216):Lv p (cnt p) (cnt (cnt p)) (cnt (cnt (cnt p))):=⟨h0,h1,rfl,rfl,rfl⟩
theorem Lv.nums {p a b c:Nat} (h:Lv p a b c):p≤6*a∧6*a≤p+5∧a≤6*b∧6*b≤a+5∧b≤6*c∧6*c≤b+5:=by
 obtain ⟨_,_,rfl,rfl,rfl⟩:=h
 have h1:=cnt_le p;have h2:=cnt_le (cnt p);have h3:=cnt_le (cnt (cnt p))
 omega
theorem stn_lvn (p k:Nat) (hk:k≤3):stn p (k+1)=stn p k+lvn p k:=by
 match k,hk with
 | 0,_=>simp [stn,lvn]
 | 1,_=>simp [stn,lvn]
 | 2,_=>simp [stn,lvn]
 | 3,_=>simp [stn,lvn]
theorem lvn_cnt (p k:Nat) (hk:k≤2):lvn p (k+1)=cnt (lvn p k):=by
 match k,hk with
 | 0,_=>rfl
 | 1,_=>rfl
 | 2,_=>rfl
theorem top_iff (p k:Nat) (h0:1≤p) (h1:p≤216) (hk:k≤3):(k=0∨1 < lvn p k) ↔ k+1≤topn p:=by
 have h:=(lv_of p h0 h1).nums
 unfold topn
 match k,hk with
 | 0,_=>simp;split <;> (try split) <;> omega
 | 1,_=>simp only [lvn];split <;> (try split) <;> omega
 | 2,_=>simp only [lvn];split <;> (try split) <;> omega
 | 3,_=>simp only [lvn];split <;> (try split) <;> omega
theorem top_le (p:Nat):1≤topn p∧topn p≤3:=by unfold topn;split <;> (try split) <;> omega
theorem lev_at (p k j:Nat) (hk:k≤3) (hj:j < lvn p k):lev p (stn p k+j)=k:=by
 unfold lev
 match k,hk with
 | 0,_=>simp only [stn,lvn] at hj ⊢;rw [if_pos (by omega)]
 | 1,_=>simp only [stn,lvn] at hj ⊢;rw [if_neg (by omega),if_pos (by omega)]
 | 2,_=>simp only [stn,lvn] at hj ⊢;rw [if_neg (by omega),if_neg (by omega),if_pos (by omega)]
 | 3,_=>simp only [stn,lvn] at hj ⊢;rw [if_neg (by omega),if_neg (by omega),if_neg (by omega)]
theorem lev_le (p i:Nat):lev p i≤3:=by unfold lev;split <;> (try split) <;> (try split) <;> omega
theorem lev_lo (p i:Nat):stn p (lev p i)≤i:=by
 unfold lev
 split
 ·exact Nat.zero_le _
 ·split
  ·simp only [stn];omega
  ·split
   ·simp only [stn] at *;omega
   ·simp only [stn] at *;omega
theorem lev_hi (p i:Nat) (h:i < stn p 4):i < stn p (lev p i+1):=by
 unfold lev
 split
 ·simpa [stn] using ‹i < p›
 ·split
  ·assumption
  ·split
   ·assumption
   ·exact h
theorem lev_eq (p i k:Nat) (hk:k≤3) (h0:stn p k≤i) (h1:i < stn p (k+1)):lev p i=k:=by
 have h:=lev_at p k (i - stn p k) hk (by rw [stn_lvn p k hk] at h1;omega)
 rwa [Nat.add_sub_cancel' h0] at h
theorem itn_le (p:Nat):itn p≤stn p 4:=by
 unfold itn topn
 split
 ·simp only [stn];omega
 ·split
  ·simp only [stn];omega
  ·exact Nat.le_refl _
theorem itn_big (p:Nat) (h0:1≤p) (h1:p≤216):p < itn p∧itn p≤259:=by
 have h:=(lv_of p h0 h1).nums
 unfold itn topn
 split
 ·simp only [stn];omega
 ·split
  ·simp only [stn];omega
  ·simp only [stn];omega
theorem root_one (p:Nat) (h0:1≤p) (h1:p≤216):lvn p (topn p)=1∧itn p=stn p (topn p)+1:=by
 have h:=(lv_of p h0 h1).nums
 unfold itn topn
 split
 ·simp only [stn,lvn];omega
 ·split
  ·simp only [stn,lvn];omega
  ·simp only [stn,lvn];omega
theorem fstL_length (p n:Nat):(fstL p n).length=n:=by simp [fstL]
theorem fstL_succ (p n:Nat):fstL p (n+1)=fstL p n++[fstZ p n]:=by simp [fstL,List.range_succ]
theorem fstL_get (p n i:Nat) (h:i < n):(fstL p n).getD i 0=fstZ p i:=by simp [fstL,List.getD_eq_getElem?_getD,h]
theorem fstZ_at (p k j:Nat) (hk:k≤2) (hj:j < lvn p (k+1)):fstZ p (stn p (k+1)+j)=((stn p k+6*j:Nat):Int):=by
 have hl:=lev_at p (k+1) j (by omega) hj
 have h0:p≤stn p (k+1):=by
  match k,hk with
  | 0,_=>exact Nat.le_refl _
  | 1,_=>simp only [stn];omega
  | 2,_=>simp only [stn];omega
 unfold fstZ fst
 rw [if_neg (by omega),hl,Nat.add_sub_cancel,Nat.add_sub_cancel_left]
theorem kids_cond (p i j:Nat) (_h0:1≤p) (_h1:p≤216) (hi:p≤i) (hit:i < itn p):(j < 6∧fst p i+j < i∧lev p (fst p i+j)+1=lev p i) ↔ j < many p i:=by
 have h4:=itn_le p
 have hlo:=lev_lo p i
 have hhi:=lev_hi p i (by omega)
 have hl3:=lev_le p i
 have hl1:1≤lev p i:=by
  rcases Nat.eq_zero_or_pos (lev p i) with e | e
  ·rw [e] at hhi;simp only [stn] at hhi;omega
  ·exact e
 unfold many
 obtain ⟨k,hk⟩:∃ k,lev p i=k+1:=⟨lev p i - 1,by omega⟩
 have hf:fst p i=stn p k+6*(i - stn p (k+1)):=by unfold fst;rw [hk];rfl
 rw [hk] at hlo hhi hl3 ⊢
 constructor
 ·rintro ⟨a,b,c⟩
  have hc:lev p (fst p i+j)=k:=by omega
  have hh:=lev_hi p (fst p i+j) (by omega)
  rw [hc] at hh
  omega
 ·intro a
  have a1:fst p i+j < stn p (k+1):=by omega
  have hc:=lev_eq p (fst p i+j) k (by omega) (by omega) a1
  exact ⟨by omega,by omega,by omega⟩
theorem many_le (p i:Nat):many p i≤6:=by unfold many;omega
theorem kid_iff (p q i j:Nat) (h0:1≤p) (h1:p≤216) (hq:p≤q) (hqt:q < itn p):(j < many p q∧fst p q+j=i) ↔ (i+1 < itn p∧parN p i=(q,j)):=by
 have h4:=itn_le p
 have hn:=(lv_of p h0 h1).nums
 have hlo:=lev_lo p q
 have hhi:=lev_hi p q (by omega)
 have hl3:=lev_le p q
 have hl1:1≤lev p q:=by
  rcases Nat.eq_zero_or_pos (lev p q) with e | e
  ·rw [e] at hhi;simp only [stn] at hhi;omega
  ·exact e
 obtain ⟨k,hk⟩:∃ k,lev p q=k+1:=⟨lev p q - 1,by omega⟩
 have hf:fst p q=stn p k+6*(q - stn p (k+1)):=by unfold fst;rw [hk];rfl
 have hs1:=stn_lvn p k (by omega)
 have hs2:=stn_lvn p (k+1) (by omega)
 have hc:=lvn_cnt p k (by omega)
 have hcl:=cnt_le (lvn p k)
 unfold many
 rw [hk] at hlo hhi hl3 ⊢
 constructor
 ·rintro ⟨a,rfl⟩
  have a1:fst p q+j < stn p (k+1):=by omega
  have hl:=lev_eq p (fst p q+j) k (by omega) (by omega) a1
  refine ⟨by omega,?_⟩
  unfold parN
  rw [hl]
  rw [Prod.mk.injEq]
  constructor <;> omega
 ·rintro ⟨a,b⟩
  unfold parN at b
  rw [Prod.mk.injEq] at b
  have il:=lev_lo p i
  have ih:=lev_hi p i (by omega)
  have i3:=lev_le p i
  obtain ⟨b1,b2⟩:=b
  have e:lev p i=k:=by
   have r1:=root_one p h0 h1
   have t1:=top_le p
   have lt:lev p i+1≤3:=by
    rcases Nat.lt_or_ge (lev p i) 3 with h | h
    ·exact h
    ·exfalso
     have e3:lev p i=3:=by omega
     rw [e3] at il
     have:topn p=3:=by
      rcases Nat.lt_or_ge (topn p) 3 with h | h
      ·exfalso
       have:itn p≤stn p 3:=by
        unfold itn
        have:topn p=1∨topn p=2:=by omega
        rcases this with e | e <;> rw [e] <;> simp only [stn] <;> omega
       omega
      ·omega
     rw [this] at r1
     omega
   have hq1:stn p (lev p i+1)≤q:=by omega
   have hs3:=stn_lvn p (lev p i) (by omega)
   have hs4:=stn_lvn p (lev p i+1) (by omega)
   have hc2:=lvn_cnt p (lev p i) (by omega)
   have hcl2:=cnt_le (lvn p (lev p i))
   have hq2:q < stn p (lev p i+1+1):=by omega
   have:=lev_eq p q (lev p i+1) (by omega) hq1 hq2
   omega
  rw [e] at b1 b2 il ih
  constructor <;> omega
end Sha
end Go.Proofs.YtplmfmpbkjnbaaaGreatDoor
namespace Go.Proofs.YtplmfmpbkjnbaaaGreatDoor
namespace Sha
open Go.RowKit Mem
theorem o_ieq {P:Program} (q:Int) (t t2:TypeId) (x y:Operand) (w:World):(do eqGuard .eql t x y (.int .i64 q) (.int .i64 q);binOp .eql t2 (.int .i64 q) (.int .i64 q):Sem Value).run P w=.ok (.bool true) w:=by go_simp
theorem o_ieqf {P:Program} (p q:Int) (h:¬ p=q) (t t2:TypeId) (x y:Operand) (w:World):(do eqGuard .eql t x y (.int .i64 p) (.int .i64 q);binOp .eql t2 (.int .i64 p) (.int .i64 q):Sem Value).run P w=.ok (.bool false) w:=by
 have hb:(p == q)=false:=by simpa using h
 go_simp
theorem o_ine {P:Program} (q:Int) (t t2:TypeId) (x y:Operand) (w:World):(do eqGuard .neq t x y (.int .i64 q) (.int .i64 q);binOp .neq t2 (.int .i64 q) (.int .i64 q):Sem Value).run P w=.ok (.bool false) w:=by go_simp
end Sha
end Go.Proofs.YtplmfmpbkjnbaaaGreatDoor
namespace Go.Proofs.YtplmfmpbkjnbaaaGreatDoor
namespace Sha
def nbyte (m i:Nat):BitVec 8:=BitVec.ofNat 8 (m / 256 ^ i)
def nbytes (m k:Nat):List (BitVec 8):=(List.range k).map (nbyte m)
theorem nbytes_length (m k:Nat):(nbytes m k).length=k:=by simp [nbytes]
def cutN (z:Int) (lo hi:Nat):Nat:=(min (max z (lo:Int)) (hi:Int)).toNat
theorem cutN_val (z:Int) (lo hi:Nat) (_h:lo≤hi):((cutN z lo hi:Nat):Int)=min (max z (lo:Int)) (hi:Int):=by unfold cutN;omega
theorem cutN_lo (z:Int) (lo hi:Nat) (h:lo≤hi):lo≤cutN z lo hi:=by unfold cutN;omega
theorem cutN_hi (z:Int) (lo hi:Nat):cutN z lo hi≤hi:=by unfold cutN;omega
end Sha
end Go.Proofs.YtplmfmpbkjnbaaaGreatDoor
namespace Go.Proofs.YtplmfmpbkjnbaaaGreatDoor
namespace Mem
open Go.RowKit
structure Two (d:Nat) (X Y:World):Prop where
 os:Y.os=X.os
 tape:Y.tape=X.tape
 output:Y.output=X.output
 size:X.heap.size≤Y.heap.size
 same:∀ k,k < X.heap.size→k≠d→k≠d+1→Y.heap[k]?=X.heap[k]?
structure Rnd (d n0:Nat) (X Y:World):Prop where
 low:Below n0 X Y
 high:∀ k,d≤k→k < X.heap.size→Y.heap[k]?=X.heap[k]?
theorem Two.put {d j:Nat} {W:World} {o o':Obj} (hj:j=d∨j=d+1) (h:W.heap[j]?=some o):Two d W (W.putObj j o'):=by
 have hlt:=(Array.getElem?_eq_some_iff.1 h).1
 exact ⟨rfl,rfl,rfl,by simp [World.putObj],fun k _ h1 h2=>World.putObj_heap_other (by omega)⟩
theorem Two.below {d n0:Nat} {X Y:World} (h:Two d X Y) (hd:n0≤d) (hs:n0≤X.heap.size):Below n0 X Y:=
 ⟨h.os,h.tape,h.output,h.size,fun k hk=>h.same k (by omega) (by omega) (by omega)⟩
theorem Rnd.trans {d n0:Nat} {X Y Z:World} (h:Rnd d n0 X Y) (k:Rnd d n0 Y Z):Rnd d n0 X Z:=
 ⟨h.low.trans k.low,fun j h1 h2=>(k.high j h1 (Nat.lt_of_lt_of_le h2 h.low.size)).trans (h.high j h1 h2)⟩
end Mem
end Go.Proofs.YtplmfmpbkjnbaaaGreatDoor
namespace Go.Proofs.YtplmfmpbkjnbaaaGreatDoor
namespace Sha
open Go.RowKit
theorem o_ilt1 {P:Program} (a b:Int) (q:Bool) (h:decide (a < b)=q) (t t2:TypeId) (x y:Operand) (w:World):(do eqGuard .lss t x y (.int .i64 a) (.int .i64 b);binOp .lss t2 (.int .i64 a) (.int .i64 b):Sem Value).run P w=.ok (.bool q) w:=by subst h;go_simp
theorem o_ige1 {P:Program} (a b:Int) (q:Bool) (h:decide (b≤a)=q) (t t2:TypeId) (x y:Operand) (w:World):(do eqGuard .geq t x y (.int .i64 a) (.int .i64 b);binOp .geq t2 (.int .i64 a) (.int .i64 b):Sem Value).run P w=.ok (.bool q) w:=by subst h;go_simp
theorem o_igt1 {P:Program} (a b:Int) (q:Bool) (h:decide (b < a)=q) (t t2:TypeId) (x y:Operand) (w:World):(do eqGuard .gtr t x y (.int .i64 a) (.int .i64 b);binOp .gtr t2 (.int .i64 a) (.int .i64 b):Sem Value).run P w=.ok (.bool q) w:=by subst h;go_simp
theorem o_inet1 {P:Program} (a b:Int) (h:¬ a=b) (t t2:TypeId) (x y:Operand) (w:World):(do eqGuard .neq t x y (.int .i64 a) (.int .i64 b);binOp .neq t2 (.int .i64 a) (.int .i64 b):Sem Value).run P w=.ok (.bool true) w:=by
 have e:(a == b)=false:=by simpa using h
 go_simp
theorem o_ineq {P:Program} (a b:Int) (h:a=b) (t t2:TypeId) (x y:Operand) (w:World):(do eqGuard .neq t x y (.int .i64 a) (.int .i64 b);binOp .neq t2 (.int .i64 a) (.int .i64 b):Sem Value).run P w=.ok (.bool false) w:=by
 subst h;go_simp
theorem wpList_unguard {P:Program} {ops:Array Oper} {rest:List Oper} {o:Oper} {a:Act} {w:World} {Q:Exit→Act→World→Prop} (hw:Region.wanted o (yielded ops a.tmps)=true)
 (h:wpList P ops Q ({ o with guard:=none }::rest) a w):wpList P ops Q (o::rest) a w:=by
 unfold wpList at h ⊢
 rw [if_pos hw]
 have hn:Region.wanted { o with guard:=none } (yielded ops a.tmps)=true:=rfl
 rw [if_pos hn] at h
 exact h
end Sha
end Go.Proofs.YtplmfmpbkjnbaaaGreatDoor
