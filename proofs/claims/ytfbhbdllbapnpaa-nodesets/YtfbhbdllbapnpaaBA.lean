/- Plain mathematics of the digest (FIPS 180-4) on lists of words and bytes, and the rules by which the model's integers are words: nothing of the program is named here. Words and bytes as the model has them; operations on them. Over any program. Blocks of cells known whole: what a load of a part of them reads, what a store of a part of them leaves. Over any program. A region that draws its order, walked by a plan: what yields one value in every world of a class is taken first, what comes up alone is carried out. Over any program. A slice of the call's own, of elements of one cell each: it reads as a list of values; a literal of one element appended to it. Over any program. Over any program: one cell's store; in a plan, addresses in slices, arrays and structs, one cell's load and store, part of a row's load. What every walk imports; blocks that are kept. Over any program. Slices of bytes that read as lists, the call's own among them; blocks that are kept. A word turned left, bit by bit and at once. Plain mathematics of the cipher (RFC 8439) on words and bytes. Two arrays of integers compared. Over any program. Two structs compared, field by field. Over any program. Arrays of 32 bytes compared. Loads in a plain region, guarded or not. Over any program. How a call that tells bytes ends. A row of bytes filled from the left. Blocks that are an object's own, and what changes no others; slices of rows of cells; appends of rows. Over any program. How an append changes an own slice. Over any program. In a plan: a nil check, the address of a slice's row, a value that is read where it comes up. Over any program. Whether two lists of bytes are the same. Pieces of slices of bytes that read as lists, in plain regions, guarded or not. A conversion in a plain region. A copy into a row. -/
import Derived.WalkKit
import Derived.Deep.MidRow
import Derived.Deep.Draws
import Derived.Deep.WholeRow
import Derived.Laws.CopyOwn
import Derived.Deep.RegionHeld3
import Derived.NoCompiler
import Derived.Great.Walk
import Derived.Stop.BytesEq
import Derived.Maps.AppendAt
import Derived.OwnWalk
import Derived.Test.YtfbhbdllbapnpaaChecked
import Derived.WalkSpells
import Derived.WalkLawsBesides
import Derived.Lib.Hide
import Derived.Deep.QuietTactic
import Derived.BigQuiet
import Derived.Deep.DeepFit
import Derived.Laws.StructEq
import Derived.Laws.Tables
import Derived.Laws.CopyRow
import Derived.Laws.IdiomCopy
namespace Go.Proofs.Ytfbhbdllbapnpaa
namespace Sha
open Go.RowKit

/-- A word of 32 bits, and a byte, as values. -/
def V (x : BitVec 32) : Int := x.toNat
theorem V_lo (x : BitVec 32) : 0 ≤ V x := Int.natCast_nonneg _
theorem V_hi (x : BitVec 32) : V x < 4294967296 := by unfold V; have := x.isLt; omega
def u32s (l : List (BitVec 32)) : List Value := l.map fun x => .int .u32 (V x)
def u8s (l : List (BitVec 8)) : List Value := l.map fun x => .int .u8 (x.toNat : Int)

theorem u32s_length (l : List (BitVec 32)) : (u32s l).length = l.length := by simp [u32s]
theorem u8s_length (l : List (BitVec 8)) : (u8s l).length = l.length := by simp [u8s]
theorem u32s_get (l : List (BitVec 32)) (i : Nat) (h : i < l.length) : (u32s l)[i]? = some (.int .u32 (V (l.getD i 0))) := by
  simp [u32s, h]
theorem u8s_get (l : List (BitVec 8)) (i : Nat) (h : i < l.length) : (u8s l)[i]? = some (.int .u8 ((l.getD i 0).toNat : Int)) := by
  simp [u8s, h]

/-! ### the model's integers as words -/
theorem r_wrap (n : Nat) : IntKind.u32.wrap (n : Int) = ((n % 4294967296 : Nat) : Int) := by
  simp [IntKind.wrap, IntKind.bits, IntKind.signed]
theorem r_ofInt (x : BitVec 32) : BitVec.ofInt 32 (x.toNat : Int) = x := by
  rw [BitVec.ofInt_natCast]; simp
theorem r_mod (x : BitVec 32) : x.toNat % 4294967296 = x.toNat := Nat.mod_eq_of_lt x.isLt
theorem r_xor (a b : BitVec 32) : bits .xor .u32 (V a) (V b) = V (a ^^^ b) := by
  show IntKind.u32.wrap (((BitVec.ofInt 32 (a.toNat : Int)) ^^^ (BitVec.ofInt 32 (b.toNat : Int))).toNat : Int) = _
  rw [r_ofInt, r_ofInt, r_wrap, r_mod]; rfl
theorem r_and (a b : BitVec 32) : bits .and .u32 (V a) (V b) = V (a &&& b) := by
  show IntKind.u32.wrap (((BitVec.ofInt 32 (a.toNat : Int)) &&& (BitVec.ofInt 32 (b.toNat : Int))).toNat : Int) = _
  rw [r_ofInt, r_ofInt, r_wrap, r_mod]; rfl
theorem r_or (a b : BitVec 32) : bits .or .u32 (V a) (V b) = V (a ||| b) := by
  show IntKind.u32.wrap (((BitVec.ofInt 32 (a.toNat : Int)) ||| (BitVec.ofInt 32 (b.toNat : Int))).toNat : Int) = _
  rw [r_ofInt, r_ofInt, r_wrap, r_mod]; rfl
theorem r_add' (a b : BitVec 32) : IntKind.u32.wrap (V a + V b) = V (a + b) := by
  unfold V
  rw [← Int.natCast_add, r_wrap, BitVec.toNat_add]
theorem r_add (a b : BitVec 32) : (V a + V b) % (4294967296 : Int) = V (a + b) := by
  rw [← r_add']; simp [IntKind.wrap, IntKind.bits, IntKind.signed]

theorem r_add4 (a b c d : BitVec 32) : (V a + V b + V c + V d) % (4294967296 : Int) = V (a + b + c + d) := by
  rw [← r_add (a + b + c) d, ← r_add (a + b) c, ← r_add a b]; omega
theorem r_add5 (a b c d e : BitVec 32) : (V a + V b + V c + V d + V e) % (4294967296 : Int) = V (a + b + c + d + e) := by
  rw [← r_add (a + b + c + d) e, ← r_add4 a b c d]; omega
theorem u32s_one (l : List (BitVec 32)) : (u32s l).toArray.all (·.oneCell') = true := by
  simp [u32s, Value.oneCell']
theorem u8s_one (l : List (BitVec 8)) : (u8s l).toArray.all (·.oneCell') = true := by
  simp [u8s, Value.oneCell']

/-! ### the digest -/
def Kl : List (BitVec 32) := [1116352408, 1899447441, 3049323471, 3921009573, 961987163, 1508970993, 2453635748, 2870763221, 3624381080, 310598401, 607225278, 1426881987, 1925078388, 2162078206, 2614888103, 3248222580, 3835390401, 4022224774, 264347078, 604807628, 770255983, 1249150122, 1555081692, 1996064986, 2554220882, 2821834349, 2952996808, 3210313671, 3336571891, 3584528711, 113926993, 338241895, 666307205, 773529912, 1294757372, 1396182291, 1695183700, 1986661051, 2177026350, 2456956037, 2730485921, 2820302411, 3259730800, 3345764771, 3516065817, 3600352804, 4094571909, 275423344, 430227734, 506948616, 659060556, 883997877, 958139571, 1322822218, 1537002063, 1747873779, 1955562222, 2024104815, 2227730452, 2361852424, 2428436474, 2756734187, 3204031479, 3329325298]
def IVl : List (BitVec 32) := [1779033703, 3144134277, 1013904242, 2773480762, 1359893119, 2600822924, 528734635, 1541459225]

def s0 (x : BitVec 32) : BitVec 32 := x.rotateRight 7 ^^^ x.rotateRight 18 ^^^ (x >>> 3)
def s1 (x : BitVec 32) : BitVec 32 := x.rotateRight 17 ^^^ x.rotateRight 19 ^^^ (x >>> 10)
def word (b : List (BitVec 8)) (t : Nat) : BitVec 32 :=
  (b.getD (4 * t) 0).setWidth 32 <<< 24 ||| (b.getD (4 * t + 1) 0).setWidth 32 <<< 16 ||| (b.getD (4 * t + 2) 0).setWidth 32 <<< 8 ||| (b.getD (4 * t + 3) 0).setWidth 32
/-- The first t words of a block's, t up to 16. -/
def wds (b : List (BitVec 8)) : Nat → List (BitVec 32)
  | 0 => []
  | t + 1 => wds b t ++ [word b t]
def nextW (l : List (BitVec 32)) : BitVec 32 :=
  s1 (l.getD (l.length - 2) 0) + l.getD (l.length - 7) 0 + s0 (l.getD (l.length - 15) 0) + l.getD (l.length - 16) 0
/-- k words more. -/
def ext (l : List (BitVec 32)) : Nat → List (BitVec 32)
  | 0 => l
  | k + 1 => ext l k ++ [nextW (ext l k)]
def sched (b : List (BitVec 8)) : List (BitVec 32) := ext (wds b 16) 48

structure Reg where
  a : BitVec 32
  b : BitVec 32
  c : BitVec 32
  d : BitVec 32
  e : BitVec 32
  f : BitVec 32
  g : BitVec 32
  h : BitVec 32
def tee (k w : BitVec 32) (r : Reg) : BitVec 32 :=
  r.h + (r.e.rotateRight 6 ^^^ r.e.rotateRight 11 ^^^ r.e.rotateRight 25) + (r.e &&& r.f ^^^ ~~~r.e &&& r.g) + k + w
def you (r : Reg) : BitVec 32 :=
  (r.a.rotateRight 2 ^^^ r.a.rotateRight 13 ^^^ r.a.rotateRight 22) + (r.a &&& r.b ^^^ r.a &&& r.c ^^^ r.b &&& r.c)
def rnd (k w : BitVec 32) (r : Reg) : Reg := ⟨tee k w r + you r, r.a, r.b, r.c, r.d + tee k w r, r.e, r.f, r.g⟩
def rnds (w : List (BitVec 32)) (r : Reg) : Nat → Reg
  | 0 => r
  | t + 1 => rnd (Kl.getD t 0) (w.getD t 0) (rnds w r t)
def Reg.list (r : Reg) : List (BitVec 32) := [r.a, r.b, r.c, r.d, r.e, r.f, r.g, r.h]
def regOf (l : List (BitVec 32)) : Reg := ⟨l.getD 0 0, l.getD 1 0, l.getD 2 0, l.getD 3 0, l.getD 4 0, l.getD 5 0, l.getD 6 0, l.getD 7 0⟩
def adds (l m : List (BitVec 32)) : List (BitVec 32) := List.zipWith (· + ·) l m
/-- A block turns a state. -/
def comp (s : List (BitVec 32)) (b : List (BitVec 8)) : List (BitVec 32) := adds (rnds (sched b) (regOf s) 64).list s

theorem word_val (b0 b1 b2 b3 : BitVec 8) :
    bits .or .u32 (bits .or .u32 (bits .or .u32 ((b0.toNat : Int) * 16777216) ((b1.toNat : Int) * 65536)) ((b2.toNat : Int) * 256)) (b3.toNat : Int) =
      V (b0.setWidth 32 <<< 24 ||| b1.setWidth 32 <<< 16 ||| b2.setWidth 32 <<< 8 ||| b3.setWidth 32) := by
  have l0 := b0.isLt
  have l1 := b1.isLt
  have l2 := b2.isLt
  have l3 := b3.isLt
  have e0 : (b0.toNat : Int) * (16777216 : Int) = V (b0.setWidth 32 <<< 24) := by
    unfold V; rw [BitVec.toNat_shiftLeft, BitVec.toNat_setWidth, Nat.shiftLeft_eq]; omega
  have e1 : (b1.toNat : Int) * (65536 : Int) = V (b1.setWidth 32 <<< 16) := by
    unfold V; rw [BitVec.toNat_shiftLeft, BitVec.toNat_setWidth, Nat.shiftLeft_eq]; omega
  have e2 : (b2.toNat : Int) * (256 : Int) = V (b2.setWidth 32 <<< 8) := by
    unfold V; rw [BitVec.toNat_shiftLeft, BitVec.toNat_setWidth, Nat.shiftLeft_eq]; omega
  have e3 : (b3.toNat : Int) = V (b3.setWidth 32) := by
    unfold V; rw [BitVec.toNat_setWidth]; omega
  rw [e0, e1, e2, e3, r_or, r_or, r_or]
theorem r_not (x : BitVec 32) : bits .xor .u32 (if IntKind.u32.signed = true then -1 else IntKind.u32.max) (V x) = V (~~~x) := by
  show IntKind.u32.wrap (((BitVec.ofInt 32 (if IntKind.u32.signed = true then -1 else IntKind.u32.max)) ^^^ (BitVec.ofInt 32 (x.toNat : Int))).toNat : Int) = _
  have e : (BitVec.ofInt 32 (if IntKind.u32.signed = true then -1 else IntKind.u32.max)) = BitVec.allOnes 32 := by decide
  rw [e, r_ofInt, r_wrap, r_mod, BitVec.xor_comm, BitVec.xor_allOnes]; rfl
theorem tee_val (k m : BitVec 32) (r : Reg) :
    (V r.h + bits BinOp.xor IntKind.u32 (bits BinOp.xor IntKind.u32 (V (r.e.rotateRight 6)) (V (r.e.rotateRight 11))) (V (r.e.rotateRight 25)) +
        bits BinOp.xor IntKind.u32 (bits BinOp.and IntKind.u32 (V r.e) (V r.f)) (bits BinOp.and IntKind.u32 (bits BinOp.xor IntKind.u32 (if IntKind.u32.signed = true then -1 else IntKind.u32.max) (V r.e)) (V r.g)) +
        V k + V m) % (4294967296 : Int) = V (tee k m r) := by
  rw [r_not, r_xor, r_xor, r_and, r_and, r_xor, r_add5]; rfl
theorem you_val (r : Reg) :
    (bits BinOp.xor IntKind.u32 (bits BinOp.xor IntKind.u32 (V (r.a.rotateRight 2)) (V (r.a.rotateRight 13))) (V (r.a.rotateRight 22)) +
        bits BinOp.xor IntKind.u32 (bits BinOp.xor IntKind.u32 (bits BinOp.and IntKind.u32 (V r.a) (V r.b)) (bits BinOp.and IntKind.u32 (V r.a) (V r.c))) (bits BinOp.and IntKind.u32 (V r.b) (V r.c))) % (4294967296 : Int) = V (you r) := by
  rw [r_xor, r_xor, r_and, r_and, r_and, r_xor, r_xor, r_add]; rfl
/-- The first i words of l are those of the sums. -/
def addTo (l m : List (BitVec 32)) (i : Nat) : List (BitVec 32) := (adds l m).take i ++ l.drop i
theorem addTo_length (l m : List (BitVec 32)) (h : l.length = m.length) (i : Nat) : (addTo l m i).length = l.length := by
  simp [addTo, adds, h]; omega
theorem addTo_get (l m : List (BitVec 32)) (h : l.length = m.length) (i : Nat) (hi : i < l.length) : (addTo l m i).getD i 0 = l.getD i 0 := by
  unfold addTo
  rw [List.getD_eq_getElem?_getD, List.getD_eq_getElem?_getD, List.getElem?_append_right (by simp [adds, ← h]; omega)]
  simp [adds, ← h, Nat.min_eq_left (Nat.le_of_lt hi)]
theorem addTo_set (l m : List (BitVec 32)) (h : l.length = m.length) (i : Nat) (hi : i < l.length) : (addTo l m i).set i (l.getD i 0 + m.getD i 0) = addTo l m (i + 1) := by
  have hi' : i < m.length := by omega
  have e1 : (adds l m).length = l.length := by simp [adds, h]
  have e2 : l.drop i = l.getD i 0 :: l.drop (i + 1) := by
    rw [List.drop_eq_getElem_cons hi]; simp [hi]
  have e3 : (adds l m).take (i + 1) = (adds l m).take i ++ [l.getD i 0 + m.getD i 0] := by
    rw [List.take_succ_eq_append_getElem (by omega)]
    simp [adds, hi, hi']
  unfold addTo
  rw [e3, e2, List.set_append_right _ _ (by simp; omega)]
  simp [e1, Nat.min_eq_left (Nat.le_of_lt hi)]
theorem addTo_all (l m : List (BitVec 32)) (h : l.length = m.length) : addTo l m l.length = adds l m := by
  have e1 : (adds l m).length = l.length := by simp [adds, h]
  unfold addTo
  rw [List.take_of_length_le (by omega), List.drop_length, List.append_nil]
theorem u32s_set (l : List (BitVec 32)) (i : Nat) (x : BitVec 32) : (u32s l).toArray.setIfInBounds i (.int .u32 (V x)) = (u32s (l.set i x)).toArray := by
  simp [u32s, List.map_set]
theorem wds_length (b : List (BitVec 8)) : ∀ t, (wds b t).length = t
  | 0 => rfl
  | t + 1 => by simp [wds, wds_length b t]
theorem ext_length (l : List (BitVec 32)) : ∀ k, (ext l k).length = l.length + k
  | 0 => rfl
  | k + 1 => by simp [ext, ext_length l k]; omega
theorem shr_val (x : BitVec 32) (k : Nat) (q : Int) (hq : q = ((2 ^ k : Nat) : Int)) : V x / q = V (x >>> k) := by
  unfold V
  rw [BitVec.toNat_ushiftRight, Nat.shiftRight_eq_div_pow, Int.natCast_ediv, hq]
theorem shr10 (x : BitVec 32) : V x / (1024 : Int) = V (x >>> 10) := shr_val x 10 _ rfl
theorem shr3 (x : BitVec 32) : V x / (8 : Int) = V (x >>> 3) := shr_val x 3 _ rfl
theorem rotr_rotl (x : BitVec 32) (r : Nat) (h : r < 32) : x.rotateLeft ((32 - r) % 32) = x.rotateRight r := by
  rw [BitVec.rotateLeft_def, BitVec.rotateRight_def]
  by_cases h0 : r = 0
  · subst h0
    have e : x >>> 32 = 0 := by
      apply BitVec.eq_of_toNat_eq
      rw [BitVec.toNat_ushiftRight, Nat.shiftRight_eq_div_pow, Nat.div_eq_of_lt x.isLt]; rfl
    simp [e]
  · have e : (32 - r) % 32 = 32 - r := Nat.mod_eq_of_lt (by omega)
    rw [e, e, Nat.mod_eq_of_lt h, BitVec.or_comm]
    congr 2; omega
theorem and31 (m : Int) : bits BinOp.and IntKind.u64 (IntKind.u64.wrap m) 31 = (((m % 32).toNat : Nat) : Int) := by
  have e : IntKind.u64.wrap m = (((m % 18446744073709551616).toNat : Nat) : Int) := by
    have h : IntKind.u64.wrap m = m % 18446744073709551616 := by simp [IntKind.wrap, IntKind.bits, IntKind.signed]
    rw [h]; omega
  have h1 : (m % 18446744073709551616).toNat < 18446744073709551616 := by omega
  rw [e]
  show IntKind.u64.wrap (((BitVec.ofInt 64 (((m % 18446744073709551616).toNat : Nat) : Int)) &&& (BitVec.ofInt 64 31)).toNat : Int) = _
  have e2 : (BitVec.ofInt 64 31) = BitVec.ofNat 64 31 := by decide
  rw [BitVec.ofInt_natCast, e2, BitVec.toNat_and, BitVec.toNat_ofNat, BitVec.toNat_ofNat]
  have e3 : (m % 18446744073709551616).toNat % 2 ^ 64 = (m % 18446744073709551616).toNat := Nat.mod_eq_of_lt h1
  have e4 : 31 % 2 ^ 64 = 2 ^ 5 - 1 := by decide
  rw [e3, e4, Nat.and_two_pow_sub_one_eq_mod]
  have e5 : (m % 18446744073709551616).toNat % 2 ^ 5 = (m % 32).toNat := by omega
  rw [e5]
  have : (m % 32).toNat < 32 := by omega
  simp [IntKind.wrap, IntKind.bits, IntKind.signed]; omega
end Sha
end Go.Proofs.Ytfbhbdllbapnpaa
namespace Go.Proofs.Ytfbhbdllbapnpaa
namespace Sha
open Go.RowKit
theorem u8s_set (l : List (BitVec 8)) (i : Nat) (x : BitVec 8) : (u8s l).toArray.setIfInBounds i (.int .u8 (x.toNat : Int)) = (u8s (l.set i x)).toArray := by
  simp [u8s, List.map_set]
def wb (x : BitVec 32) (k : Nat) : BitVec 8 := (x >>> k).setWidth 8
theorem wb_val (x : BitVec 32) (k : Nat) (q : Int) (hq : q = ((2 ^ k : Nat) : Int)) : (V x / q % (256 : Int)) = ((wb x k).toNat : Int) := by
  unfold wb V
  rw [BitVec.toNat_setWidth, BitVec.toNat_ushiftRight, Nat.shiftRight_eq_div_pow, hq, ← Int.natCast_ediv]; rfl
theorem wb24 (x : BitVec 32) : (V x / (16777216 : Int) % (256 : Int)) = ((wb x 24).toNat : Int) := wb_val x 24 _ rfl
theorem wb16 (x : BitVec 32) : (V x / (65536 : Int) % (256 : Int)) = ((wb x 16).toNat : Int) := wb_val x 16 _ rfl
theorem wb8 (x : BitVec 32) : (V x / (256 : Int) % (256 : Int)) = ((wb x 8).toNat : Int) := wb_val x 8 _ rfl
theorem wb0 (x : BitVec 32) : (V x % (256 : Int)) = ((wb x 0).toNat : Int) := by
  have := wb_val x 0 1 rfl
  simpa using this
theorem b_wrap (n : Nat) : IntKind.u8.wrap (n : Int) = ((n % 256 : Nat) : Int) := by
  simp [IntKind.wrap, IntKind.bits, IntKind.signed]
theorem b_ofInt (x : BitVec 8) : BitVec.ofInt 8 (x.toNat : Int) = x := by rw [BitVec.ofInt_natCast]; simp
theorem b_mod (x : BitVec 8) : x.toNat % 256 = x.toNat := Nat.mod_eq_of_lt x.isLt
theorem b_xor (a b : BitVec 8) : bits .xor .u8 (a.toNat : Int) (b.toNat : Int) = ((a ^^^ b).toNat : Int) := by
  show IntKind.u8.wrap (((BitVec.ofInt 8 (a.toNat : Int)) ^^^ (BitVec.ofInt 8 (b.toNat : Int))).toNat : Int) = _
  rw [b_ofInt, b_ofInt, b_wrap, b_mod]
theorem b_or (a b : BitVec 8) : bits .or .u8 (a.toNat : Int) (b.toNat : Int) = ((a ||| b).toNat : Int) := by
  show IntKind.u8.wrap (((BitVec.ofInt 8 (a.toNat : Int)) ||| (BitVec.ofInt 8 (b.toNat : Int))).toNat : Int) = _
  rw [b_ofInt, b_ofInt, b_wrap, b_mod]
/-- A byte as a value: behind a plain definition, so that no walk lays it open. -/
def B8 (x : BitVec 8) : Int := x.toNat
theorem B8_lo (x : BitVec 8) : 0 ≤ B8 x := Int.natCast_nonneg _
theorem B8_hi (x : BitVec 8) : B8 x ≤ 255 := by unfold B8; have := x.isLt; omega
theorem B8_xor (a b : BitVec 8) : bits .xor .u8 (B8 a) (B8 b) = B8 (a ^^^ b) := b_xor a b
theorem B8_or (a b : BitVec 8) : bits .or .u8 (B8 a) (B8 b) = B8 (a ||| b) := b_or a b
theorem B8_zero : B8 0 = 0 := rfl
theorem B8_eq (x : BitVec 8) : (B8 x == 0) = (x == 0) := by
  unfold B8
  rw [Bool.eq_iff_iff, beq_iff_eq, beq_iff_eq]
  constructor
  · intro h
    exact BitVec.eq_of_toNat_eq (by simpa using h)
  · intro h; rw [h]; rfl
theorem u8s_snoc (l : List (BitVec 8)) (x : BitVec 8) : u8s (l ++ [x]) = u8s l ++ [.int .u8 (x.toNat : Int)] := by simp [u8s]
theorem u8s_cells (l : List (BitVec 8)) : ∀ u ∈ u8s l, u.oneCell' = true := by
  intro u hu
  obtain ⟨x, _, rfl⟩ := List.mem_map.1 hu
  rfl
theorem u32s_cells (l : List (BitVec 32)) : ∀ u ∈ u32s l, u.oneCell' = true := by
  intro u hu
  obtain ⟨x, _, rfl⟩ := List.mem_map.1 hu
  rfl
theorem adds_length (l m : List (BitVec 32)) (h : l.length = m.length) : (adds l m).length = l.length := by simp [adds, h]
theorem adds_getD (l m : List (BitVec 32)) (h : l.length = m.length) (i : Nat) (hi : i < l.length) : (adds l m).getD i 0 = l.getD i 0 + m.getD i 0 := by
  have hm : i < m.length := by omega
  simp [adds, List.getD_eq_getElem?_getD, List.getElem?_zipWith, hi, hm]
/-- The greatest word less a word is its complement. -/
theorem not_sub (x : BitVec 32) : (4294967295 : Int) - V x = V (~~~x) := by
  have := x.isLt
  unfold V
  rw [BitVec.toNat_not]
  omega
/-- No wrapping in range. -/
theorem i64_id (r : Int) (h0 : -9223372036854775808 ≤ r) (h1 : r ≤ 9223372036854775807) : IntKind.i64.wrap r = r := by
  simp [IntKind.wrap, IntKind.bits, IntKind.signed]; omega
theorem u32_id (r : Int) (h0 : 0 ≤ r) (h1 : r < 4294967296) : IntKind.u32.wrap r = r := by
  simp [IntKind.wrap, IntKind.bits, IntKind.signed]; omega
section
variable {P : Program}
theorem o_add (t t2 : TypeId) (x y : Operand) (a b : BitVec 32) (w : World) : (do eqGuard .add t x y (.int .u32 (V a)) (.int .u32 (V b)); binOp .add t2 (.int .u32 (V a)) (.int .u32 (V b)) : Sem Value).run P w = .ok (.int .u32 (V (a + b))) w := by
  rw [← r_add']
  go_simp
theorem o_and (t t2 : TypeId) (x y : Operand) (a b : BitVec 32) (w : World) : (do eqGuard .and t x y (.int .u32 (V a)) (.int .u32 (V b)); binOp .and t2 (.int .u32 (V a)) (.int .u32 (V b)) : Sem Value).run P w = .ok (.int .u32 (V (a &&& b))) w := by
  rw [← r_and]
  go_simp
theorem o_xor (t t2 : TypeId) (x y : Operand) (a b : BitVec 32) (w : World) : (do eqGuard .xor t x y (.int .u32 (V a)) (.int .u32 (V b)); binOp .xor t2 (.int .u32 (V a)) (.int .u32 (V b)) : Sem Value).run P w = .ok (.int .u32 (V (a ^^^ b))) w := by
  rw [← r_xor]
  go_simp
theorem o_not (t t2 : TypeId) (x y : Operand) (a : BitVec 32) (w : World) : (do eqGuard .sub t x y (.int .u32 4294967295) (.int .u32 (V a)); binOp .sub t2 (.int .u32 4294967295) (.int .u32 (V a)) : Sem Value).run P w = .ok (.int .u32 (V (~~~a))) w := by
  have h0 := V_lo a
  have h1 := V_hi a
  rw [← not_sub, ← u32_id (4294967295 - V a) (by omega) (by omega)]
  go_simp
theorem o_shr3 (t t2 : TypeId) (x y : Operand) (a : BitVec 32) (w : World) : (do eqGuard .quo t x y (.int .u32 (V a)) (.int .u32 8); binOp .quo t2 (.int .u32 (V a)) (.int .u32 8) : Sem Value).run P w = .ok (.int .u32 (V (a >>> 3))) w := by
  have h0 := V_lo a
  have h1 := V_hi a
  rw [← shr3, ← u32_id (V a / 8) (by omega) (by omega), ← Int.tdiv_eq_ediv_of_nonneg h0]
  go_simp
theorem o_shr10 (t t2 : TypeId) (x y : Operand) (a : BitVec 32) (w : World) : (do eqGuard .quo t x y (.int .u32 (V a)) (.int .u32 1024); binOp .quo t2 (.int .u32 (V a)) (.int .u32 1024) : Sem Value).run P w = .ok (.int .u32 (V (a >>> 10))) w := by
  have h0 := V_lo a
  have h1 := V_hi a
  rw [← shr10, ← u32_id (V a / 1024) (by omega) (by omega), ← Int.tdiv_eq_ediv_of_nonneg h0]
  go_simp
theorem o_iadd (t t2 : TypeId) (x y : Operand) (a b r : Int) (h : a + b = r) (h0 : -9223372036854775808 ≤ r) (h1 : r ≤ 9223372036854775807) (w : World) : (do eqGuard .add t x y (.int .i64 a) (.int .i64 b); binOp .add t2 (.int .i64 a) (.int .i64 b) : Sem Value).run P w = .ok (.int .i64 r) w := by
  rw [← i64_id r h0 h1, ← h]
  go_simp
theorem o_uadd (t t2 : TypeId) (x y : Operand) (a b r : Int) (h : a + b = r) (h0 : 0 ≤ r) (h1 : r < 4294967296) (w : World) : (do eqGuard .add t x y (.int .u32 a) (.int .u32 b); binOp .add t2 (.int .u32 a) (.int .u32 b) : Sem Value).run P w = .ok (.int .u32 r) w := by
  rw [← u32_id r h0 h1, ← h]
  go_simp
theorem o_isub (t t2 : TypeId) (x y : Operand) (a b r : Int) (h : a - b = r) (h0 : -9223372036854775808 ≤ r) (h1 : r ≤ 9223372036854775807) (w : World) : (do eqGuard .sub t x y (.int .i64 a) (.int .i64 b); binOp .sub t2 (.int .i64 a) (.int .i64 b) : Sem Value).run P w = .ok (.int .i64 r) w := by
  rw [← i64_id r h0 h1, ← h]
  go_simp
theorem o_usub (t t2 : TypeId) (x y : Operand) (a b r : Int) (h : a - b = r) (h0 : 0 ≤ r) (h1 : r < 4294967296) (w : World) : (do eqGuard .sub t x y (.int .u32 a) (.int .u32 b); binOp .sub t2 (.int .u32 a) (.int .u32 b) : Sem Value).run P w = .ok (.int .u32 r) w := by
  rw [← u32_id r h0 h1, ← h]
  go_simp
theorem o_imul (t t2 : TypeId) (x y : Operand) (a b r : Int) (h : a * b = r) (h0 : -9223372036854775808 ≤ r) (h1 : r ≤ 9223372036854775807) (w : World) : (do eqGuard .mul t x y (.int .i64 a) (.int .i64 b); binOp .mul t2 (.int .i64 a) (.int .i64 b) : Sem Value).run P w = .ok (.int .i64 r) w := by
  rw [← i64_id r h0 h1, ← h]
  go_simp
theorem o_umul (t t2 : TypeId) (x y : Operand) (a b r : Int) (h : a * b = r) (h0 : 0 ≤ r) (h1 : r < 4294967296) (w : World) : (do eqGuard .mul t x y (.int .u32 a) (.int .u32 b); binOp .mul t2 (.int .u32 a) (.int .u32 b) : Sem Value).run P w = .ok (.int .u32 r) w := by
  rw [← u32_id r h0 h1, ← h]
  go_simp
end
theorem o_xorb {P : Program} (t t2 : TypeId) (x y : Operand) (a b : BitVec 8) (w : World) : (do eqGuard .xor t x y (.int .u8 (B8 a)) (.int .u8 (B8 b)); binOp .xor t2 (.int .u8 (B8 a)) (.int .u8 (B8 b)) : Sem Value).run P w = .ok (.int .u8 (B8 (a ^^^ b))) w := by
  rw [← B8_xor]
  go_simp
end Sha
end Go.Proofs.Ytfbhbdllbapnpaa
namespace Go.Proofs.Ytfbhbdllbapnpaa
namespace Mem
open Go.RowKit

/-- Block b is the cells C (nothing frozen). -/
def At (w : World) (b : Nat) (C : Array Value) (t : TypeId) : Prop := w.heap[b]? = some (.cells C t (0, 0))

theorem At.cell {w : World} {b : Nat} {C : Array Value} {t : TypeId} (h : At w b C t) (i : Nat) : w.cell? ⟨b, i, none⟩ = C[i]? := cell_of_row w b i C t (0, 0) h
theorem At.free {w : World} {b : Nat} {C : Array Value} {t : TypeId} (h : At w b C t) (i : Nat) : w.frozen? ⟨b, i, none⟩ = false := frozen_of_row w b i C t h
theorem At.lt {w : World} {b : Nat} {C : Array Value} {t : TypeId} (h : At w b C t) : b < w.heap.size := by
  unfold At at h
  exact (Array.getElem?_eq_some_iff.1 h).1
theorem At.below {w w' : World} {B b : Nat} {C : Array Value} {t : TypeId} (h : At w b C t) (hb : Below B w w') (hlt : b < B) : At w' b C t := by
  unfold At at *; rw [hb.block b hlt]; exact h
theorem At.drew {w : World} {b : Nat} {C : Array Value} {t : TypeId} (h : At w b C t) : At w.drew b C t := h
theorem At.set {w : World} {b : Nat} {C : Array Value} {t : TypeId} (h : At w b C t) (i : Nat) (v : Value) : At (w.setCell ⟨b, i, none⟩ v) b (C.setIfInBounds i v) t := heap_setCell_same w b i C t v h
theorem At.set_other {w : World} {b : Nat} {C : Array Value} {t : TypeId} (h : At w b C t) (a : Addr) (v : Value) (hne : b ≠ a.block) : At (w.setCell a v) b C t := by
  unfold At; rw [heap_setCell_other w a b v hne]; exact h
theorem At.alloc {w : World} {b : Nat} {C : Array Value} {t : TypeId} (h : At w b C t) (o : Obj) : At (w.alloc o) b C t := by
  have hl := h.lt
  unfold At; rw [Below.heap_alloc w o b hl]; exact h
theorem at_new (w : World) (C : Array Value) (t : TypeId) : At (w.alloc (.cells C t)) w.heap.size C t := heap_alloc_new w _
theorem At.row {w : World} {b : Nat} {C : Array Value} {t : TypeId} (h : At w b C t) (D : Array Value) : At (w.setRow b D) b D t := setRow_heap w b C D t _ h
theorem At.row_other {w : World} {b g : Nat} {C : Array Value} {t : TypeId} (h : At w b C t) (D : Array Value) (hne : b ≠ g) : At (w.setRow g D) b C t := by
  unfold At; rw [setRow_other w g b D hne]; exact h
theorem below_row {B : Nat} {a w : World} (h : Below B a w) {g : Nat} (hg : B ≤ g) (D : Array Value) : Below B a (w.setRow g D) :=
  h.trans ⟨rfl, rfl, rfl, by simp, fun k hk => setRow_other w g k D (by omega)⟩

/-- The part of a row from o on, n cells. -/
theorem At.range {w : World} {b : Nat} {C : Array Value} {t : TypeId} (h : At w b C t) (o n : Nat) : w.rangeAt b o (C.extract o (o + n)).toList := World.rangeAt_of_block h o n

/-- A row with the cells from o on written over. -/
def splice (C : Array Value) (o : Nat) (D : List Value) : Array Value := (C.toList.take o ++ D ++ C.toList.drop (o + D.length)).toArray

theorem setCells_row {t : TypeId} : ∀ (D : List Value) (o : Nat) (w : World) (b : Nat) (C : Array Value), At w b C t → o + D.length ≤ C.size → w.setCells b o D = w.setRow b (splice C o D)
  | [], o, w, b, C, h, _ => by
    have e : splice C o [] = C := by simp [splice]
    rw [e, World.setCells]
    have hlt := h.lt
    have hv : w.heap[b] = .cells C t (0, 0) := (Array.getElem?_eq_some_iff.1 h).2
    unfold World.setRow
    cases w with
    | mk heap tape drawn os output =>
      congr 1
      apply Array.ext
      · simp
      · intro k h1 h2
        simp only [Array.getElem_modify]
        split
        · rename_i hk; subst hk; simp at hv; simp [hv]
        · rfl
  | v :: r, o, w, b, C, h, hl => by
    have hs : (C.setIfInBounds o v).size = C.size := by simp
    rw [World.setCells, setCells_row r (o + 1) _ b _ (h.set o v) (by simp at hl ⊢; omega), setCell_eq_setRow w b o C t (0, 0) v h, setRow_setRow]
    congr 1
    simp only [List.length_cons] at hl
    unfold splice
    congr 1
    apply List.ext_getElem?
    intro k
    simp only [Array.toList_setIfInBounds, List.getElem?_append, List.length_append, List.length_take, List.length_set, Array.length_toList, List.length_cons, List.getElem?_drop, List.drop_set]
    have e1 : min (o + 1) C.size = o + 1 := by omega
    have e2 : min o C.size = o := by omega
    rw [e1, e2]
    by_cases h1 : k < o
    · simp [h1, show k < o + 1 by omega, show k < o + 1 + r.length by omega, show k < o + (r.length + 1) by omega, show o ≠ k by omega]
    · by_cases h2 : k = o
      · subst h2
        simp [show k < C.size by omega]
        omega
      · by_cases h3 : k < o + 1 + r.length
        · simp [h1, h3, show ¬ k < o + 1 by omega, show k < o + (r.length + 1) by omega, show k - o = (k - (o + 1)) + 1 by omega]
        · simp [h3, show ¬ k < o + (r.length + 1) by omega, show o < o + 1 + r.length by omega]
          congr 1; omega

section
variable {P : Program}
/-- A LOAD OF SEVERAL CELLS out of a block known whole. -/
theorem wpList_load_at {ops : Array Oper} {rest : List Oper} {op : Oper} {a : Act} {w : World} {Q : Exit → Act → World → Prop} (hgd : op.guard = none) (ty : TypeId) (x : Operand) (ho : op.op = .load ty x)
    (b o n : Nat) (hx : a.eval x = .pointer (some ⟨b, o, none⟩)) (d : TypeDesc) (hu : P.underlying ty = some d) (hd : d.isRow = true) (hi : (P.info? ty).map (·.size) = some n)
    (C : Array Value) (t : TypeId) (hC : At w b C t) (hn : o + n ≤ C.size)
    (h : wpList P ops Q rest (a.put op.dst (.agg (C.extract o (o + n)))) w) : wpList P ops Q (op :: rest) a w := by
  refine wpList_load_mid hgd ty x ho b o hx _ d (hC.range o n) hu hd ?_ ?_
  · rw [hi]; simp; omega
  · rw [Array.toArray_toList]; exact h
/-- .. OF A WHOLE BLOCK. -/
theorem wpList_load_all {ops : Array Oper} {rest : List Oper} {op : Oper} {a : Act} {w : World} {Q : Exit → Act → World → Prop} (hgd : op.guard = none) (ty : TypeId) (x : Operand) (ho : op.op = .load ty x)
    (b : Nat) (hx : a.eval x = .pointer (some ⟨b, 0, none⟩)) (d : TypeDesc) (hu : P.underlying ty = some d) (hd : d.isRow = true)
    (C : Array Value) (t : TypeId) (hC : At w b C t) (hi : (P.info? ty).map (·.size) = some C.size)
    (h : wpList P ops Q rest (a.put op.dst (.agg C)) w) : wpList P ops Q (op :: rest) a w := by
  refine wpList_load_at hgd ty x ho b 0 C.size hx d hu hd hi C t hC (by omega) ?_
  simpa using h
/-- A STORE OF SEVERAL CELLS into a block known whole: what follows is asked in a world of which this is known. -/
theorem wpList_store_at {ops : Array Oper} {rest : List Oper} {op : Oper} {a : Act} {w : World} {Q : Exit → Act → World → Prop} (hgd : op.guard = none) (ty : TypeId) (x y : Operand) (ho : op.op = .store ty x y) (hdst : op.dst = none)
    (b o : Nat) (D : Array Value) (hx : a.eval x = .pointer (some ⟨b, o, none⟩)) (hy : a.eval y = .agg D) (hi : (P.info? ty).map (·.size) = some D.size)
    (C : Array Value) (t : TypeId) (hC : At w b C t) (hn : o + D.size ≤ C.size) (h1 : D.all (·.oneCell') = true)
    (h : wpList P ops Q rest a (w.setRow b (splice C o D.toList))) : wpList P ops Q (op :: rest) a w := by
  have hput : a.put op.dst undef = a := by rw [hdst]; rfl
  refine wpList_store_mid hgd ty x y ho b o D hx hy (fun j hj => ?_) hi h1 ?_
  · rw [hC.cell, hC.free]
    exact ⟨by simp; omega, rfl⟩
  · rw [setCells_row _ _ _ _ _ hC (by simpa using hn), hput]; exact h
theorem splice_all (C D : Array Value) (h : D.size = C.size) : splice C 0 D.toList = D := by
  have e : List.drop C.size C.toList = [] := List.drop_of_length_le (by simp)
  simp [splice, h, e]
theorem wpList_store_all {ops : Array Oper} {rest : List Oper} {op : Oper} {a : Act} {w : World} {Q : Exit → Act → World → Prop} (hgd : op.guard = none) (ty : TypeId) (x y : Operand) (ho : op.op = .store ty x y) (hdst : op.dst = none)
    (b : Nat) (D : Array Value) (hx : a.eval x = .pointer (some ⟨b, 0, none⟩)) (hy : a.eval y = .agg D) (hi : (P.info? ty).map (·.size) = some D.size)
    (C : Array Value) (t : TypeId) (hC : At w b C t) (hn : D.size = C.size) (h1 : D.all (·.oneCell') = true)
    (h : wpList P ops Q rest a (w.setRow b D)) : wpList P ops Q (op :: rest) a w := by
  refine wpList_store_at hgd ty x y ho hdst b 0 D hx hy hi C t hC (by omega) h1 ?_
  rw [splice_all C D hn]; exact h
end
theorem wpList_index_row {P : Program} {ops : Array Oper} {rest : List Oper} {op : Oper} {a : Act} {w : World} {Q : Exit → Act → World → Prop} (hgd : op.guard = none) (ty : TypeId) (x i : Operand) (ho : op.op = .index ty x i)
    (n : Nat) (e : TypeId) (hu : P.underlying ty = some (.array n e)) (de : TypeDesc) (he : P.underlying e = some de) (hde : de.isRow = false) (hs : (P.info? e).map (·.size) = some 1)
    (C : Array Value) (k : Nat) (hx : a.eval x = .agg C) (hi : a.eval i = .int .i64 (k : Int)) (hk : k < n) (v : Value) (hv : C[k]? = some v)
    (h : wpList P ops Q rest (a.put op.dst v) w) : wpList P ops Q (op :: rest) a w := by
  refine wpList_plain hgd fun K hK => ?_
  have hagg : (isAgg e).run P w = .ok false w := by
    unfold isAgg
    rw [Sem.run_bind, run_underlying he w]
    cases de <;> simp_all
  cases hq : P.info? e with
  | none => simp [hq] at hs
  | some q =>
    have hs1 : q.size = 1 := by simpa [hq] using hs
    have hrun : (Instr.index ty (.agg C) (.int .i64 (k : Int))).run P w = .ok v w := by
      simp [Instr.index, asIntOf, Sem.run_bind, run_underlying hu, sizeOf, typeInfo, hq, hs1, hk, part, hagg, hv]
    unfold Oper.wp execOp
    simp only [ho, hx, hi, Sem.run_bind, hrun, Result.andThen_ok, Sem.run_pure]
    exact hK _ _ h
/-- A STORE OF SEVERAL CELLS over the block that was made last. -/
theorem wpList_store_new {P : Program} {ops : Array Oper} {rest : List Oper} {op : Oper} {a : Act} {w : World} {Q : Exit → Act → World → Prop} (hgd : op.guard = none) (ty : TypeId) (x y : Operand) (ho : op.op = .store ty x y) (hdst : op.dst = none)
    (D C : Array Value) (t : TypeId) (hx : a.eval x = .pointer (some ⟨w.heap.size, 0, none⟩)) (hy : a.eval y = .agg D) (hi : (P.info? ty).map (·.size) = some D.size)
    (hn : D.size = C.size) (h1 : D.all (·.oneCell') = true)
    (h : wpList P ops Q rest a (w.alloc (.cells D t))) : wpList P ops Q (op :: rest) a (w.alloc (.cells C t)) := by
  refine wpList_store_all hgd ty x y ho hdst w.heap.size D hx hy hi C t (at_new w C t) hn h1 ?_
  rw [World.setRow_alloc_new]; exact h
section
variable {P : Program}
theorem wpList_load_is {ops : Array Oper} {rest : List Oper} {op : Oper} {a : Act} {w : World} {Q : Exit → Act → World → Prop} (hgd : op.guard = none) (ty : TypeId) (x : Operand) (ho : op.op = .load ty x)
    (b o n : Nat) (hx : a.eval x = .pointer (some ⟨b, o, none⟩)) (d : TypeDesc) (hu : P.underlying ty = some d) (hd : d.isRow = true) (hi : (P.info? ty).map (·.size) = some n)
    (C : Array Value) (t : TypeId) (hC : At w b C t) (hn : o + n ≤ C.size) (R : Array Value) (hR : C.extract o (o + n) = R)
    (h : wpList P ops Q rest (a.put op.dst (.agg R)) w) : wpList P ops Q (op :: rest) a w :=
  wpList_load_at hgd ty x ho b o n hx d hu hd hi C t hC hn (by rw [hR]; exact h)
theorem wpList_store_is {ops : Array Oper} {rest : List Oper} {op : Oper} {a : Act} {w : World} {Q : Exit → Act → World → Prop} (hgd : op.guard = none) (ty : TypeId) (x y : Operand) (ho : op.op = .store ty x y) (hdst : op.dst = none)
    (b o : Nat) (D : Array Value) (hx : a.eval x = .pointer (some ⟨b, o, none⟩)) (hy : a.eval y = .agg D) (hi : (P.info? ty).map (·.size) = some D.size)
    (C : Array Value) (t : TypeId) (hC : At w b C t) (hn : o + D.size ≤ C.size) (h1 : D.all (·.oneCell') = true) (E : Array Value) (hE : splice C o D.toList = E)
    (h : ∀ w', At w' b E t → w'.heap.size = w.heap.size → (∀ k, k ≠ b → w'.heap[k]? = w.heap[k]?) → (∀ B a, Below B a w → B ≤ b → Below B a w') → wpList P ops Q rest a w') : wpList P ops Q (op :: rest) a w := by
  refine wpList_store_at hgd ty x y ho hdst b o D hx hy hi C t hC hn h1 ?_
  rw [hE]
  exact h _ (hC.row E) (by simp) (fun k hk => setRow_other w b k E hk) (fun B a hb hB => below_row hb hB E)
/-- copy INTO A PART OF A BLOCK KNOWN WHOLE. -/
theorem wpList_copy_at {ops : Array Oper} {rest : List Oper} {op : Oper} {a : Act} {w : World} {Q : Exit → Act → World → Prop} (hgd : op.guard = none) (x y : Operand) (dT sT : TypeId)
    (ho : op.op = .call { callee := .builtin .copy, args := #[x, y], argTypes := #[dT, sT] }) (elem : TypeId) (hu : P.underlying dT = some (.slice elem)) (hs : (P.info? elem).map (·.size) = some 1)
    (b o dLen dCap : Nat) (sa : Addr) (sLen sCap : Nat) (hx : a.eval x = .slice (some ⟨b, o, none⟩) dLen dCap) (hy : a.eval y = .slice (some sa) sLen sCap)
    (cs : List Value) (hn : cs.length = Nat.min sLen dLen) (hsrc : ∀ j v, cs[j]? = some v → w.cell? (sa.add j) = some v) (h1 : ∀ v ∈ cs, v.oneCell' = true)
    (C : Array Value) (t : TypeId) (hC : At w b C t) (hfit : o + cs.length ≤ C.size) (E : Array Value) (hE : splice C o cs = E) (kk : Nat) (hkk : cs.length = kk)
    (h : ∀ w', At w' b E t → w'.heap.size = w.heap.size → (∀ k, k ≠ b → w'.heap[k]? = w.heap[k]?) → (∀ B a, Below B a w → B ≤ b → Below B a w') → wpList P ops Q rest (a.put op.dst (.int .i64 (kk : Int))) w') : wpList P ops Q (op :: rest) a w := by
  refine wpList_copy_own hgd x y dT sT ho elem hu hs b o dLen dCap sa sLen sCap hx hy C t hC cs hn hsrc hfit h1 ?_
  have e : (C.toList.take o ++ (cs ++ C.toList.drop (o + cs.length))).toArray = E := by rw [← hE, splice, List.append_assoc]
  rw [e, hkk]
  exact h _ (hC.row E) (by simp) (fun k hk => setRow_other w b k E hk) (fun B a hb hB => below_row hb hB E)
theorem wpList_slice_low {ops : Array Oper} {rest : List Oper} {op : Oper} {a : Act} {w : World} {Q : Exit → Act → World → Prop} (hgd : op.guard = none) (ty : TypeId) (x i : Operand) (ho : op.op = .slice ty x (some i) none none)
    (elem : TypeId) (hu : P.underlying ty = some (.slice elem)) (hs : (P.info? elem).map (·.size) = some 1) (a0 : Option Addr) (len cap k : Nat) (hx : a.eval x = .slice a0 len cap) (hi : a.eval i = .int .i64 (k : Int)) (hk : k ≤ len)
    (h : ∀ a1, (∀ bb oo, a0 = some ⟨bb, oo, none⟩ → k < cap → a1 = some ⟨bb, oo + k, none⟩) → wpList P ops Q rest (a.put op.dst (.slice a1 (len - k) (cap - k))) w) : wpList P ops Q (op :: rest) a w := by
  refine wpList_plain hgd fun K hK => ?_
  cases hq : P.info? elem with
  | none => simp [hq] at hs
  | some q =>
    have hs1 : q.size = 1 := by simpa [hq] using hs
    have hrun : (Instr.slice ty (.slice a0 len cap) (some (.int .i64 (k : Int))) none none).run P w = .ok (.slice (if cap = k then a0 else a0.map (·.add k)) (len - k) (cap - k)) w := by
      simp [Instr.slice, Instr.sliceBounds, Instr.sliceBound, asIntOf, Sem.run_bind, run_underlying hu, sizeOf, typeInfo, hq, hs1, hk]
    unfold Oper.wp execOp
    have hat : (Instr.sliceAt ty (.slice a0 len cap) (some (.int .i64 (k : Int))) none none).run P w = .ok (.slice (if cap = k then a0 else a0.map (·.add k)) (len - k) (cap - k)) w := by
      simp [Instr.sliceAt, Sem.run_bind, run_underlying hu, hrun]
    simp only [ho, hx, hi, Option.map_some, Option.map_none, Sem.run_bind, hat, Result.andThen_ok, Sem.run_pure]
    refine hK _ _ (h _ ?_)
    intro bb oo e hlt
    subst e
    rw [if_neg (by omega)]
    simp [Addr.add_mid]
theorem wpList_slice_arr {ops : Array Oper} {rest : List Oper} {op : Oper} {a : Act} {w : World} {Q : Exit → Act → World → Prop} (hgd : op.guard = none) (ty : TypeId) (x i : Operand) (ho : op.op = .slice ty x (some i) none none)
    (n : Nat) (elem : TypeId) (hu : P.underlying ty = some (.array n elem)) (hs : (P.info? elem).map (·.size) = some 1) (b o k : Nat) (hx : a.eval x = .pointer (some ⟨b, o, none⟩)) (hi : a.eval i = .int .i64 (k : Int)) (hk : k < n)
    (h : wpList P ops Q rest (a.put op.dst (.slice (some ⟨b, o + k, none⟩) (n - k) (n - k))) w) : wpList P ops Q (op :: rest) a w := by
  refine wpList_plain hgd fun K hK => ?_
  cases hq : P.info? elem with
  | none => simp [hq] at hs
  | some q =>
    have hs1 : q.size = 1 := by simpa [hq] using hs
    have hne : ¬ n = k := by omega
    have hle : (k : Int) ≤ (n : Int) := by omega
    have hat : (Instr.sliceAt ty (.pointer (some ⟨b, o, none⟩)) (some (.int .i64 (k : Int))) none none).run P w = .ok (.slice (some ⟨b, o + k, none⟩) (n - k) (n - k)) w := by
      simp [Instr.sliceAt, Instr.sureAddr, Instr.sliceBounds, Instr.sliceBound, asIntOf, Sem.run_bind, run_underlying hu, sizeOf, typeInfo, hq, hs1, hne, Addr.add_mid]
      omega
    unfold Oper.wp execOp
    simp only [ho, hx, hi, Option.map_some, Option.map_none, Sem.run_bind, hat, Result.andThen_ok, Sem.run_pure]
    exact hK _ _ h
theorem wpList_slice_arr_to {ops : Array Oper} {rest : List Oper} {op : Oper} {a : Act} {w : World} {Q : Exit → Act → World → Prop} (hgd : op.guard = none) (ty : TypeId) (x i : Operand) (ho : op.op = .slice ty x none (some i) none)
    (n : Nat) (elem : TypeId) (hu : P.underlying ty = some (.array n elem)) (hs : (P.info? elem).map (·.size) = some 1) (b o k : Nat) (hx : a.eval x = .pointer (some ⟨b, o, none⟩)) (hi : a.eval i = .int .i64 (k : Int)) (hk : k ≤ n)
    (h : wpList P ops Q rest (a.put op.dst (.slice (some ⟨b, o, none⟩) k n)) w) : wpList P ops Q (op :: rest) a w := by
  refine wpList_plain hgd fun K hK => ?_
  cases hq : P.info? elem with
  | none => simp [hq] at hs
  | some q =>
    have hs1 : q.size = 1 := by simpa [hq] using hs
    have hle : (k : Int) ≤ (n : Int) := by omega
    have hat : (Instr.sliceAt ty (.pointer (some ⟨b, o, none⟩)) none (some (.int .i64 (k : Int))) none).run P w = .ok (.slice (some ⟨b, o, none⟩) k n) w := by
      simp [Instr.sliceAt, Instr.sureAddr, Instr.sliceBounds, Instr.sliceBound, asIntOf, Sem.run_bind, run_underlying hu, sizeOf, typeInfo, hq, hk, Addr.add_mid]
    unfold Oper.wp execOp
    simp only [ho, hx, hi, Option.map_some, Option.map_none, Sem.run_bind, hat, Result.andThen_ok, Sem.run_pure]
    exact hK _ _ h
end
theorem Below.drewN' {B n : Nat} {a w : World} (h : Below B a w) : Below B a (w.drewN n) := ⟨h.os, h.tape, h.output, h.size, h.block⟩
/-- The end of a function whose one result lies in a block known whole. -/
theorem ret_row {P : Program} {fn : Func} {R : Ending → World → Prop} {tmps : Array Value} {w : World} {p : Tmp} {ty : TypeId} (h : fn.results = #[.cell p ty]) (g : Nat) (t : TypeId) (cs : Array Value) (d : TypeDesc)
    (hp : tmps.getD p undef = .pointer (some ⟨g, 0, none⟩)) (hg : At w g cs t) (hu : P.underlying ty = some d) (hd : d.isRow = true) (hi : (P.info? ty).map (·.size) = some cs.size)
    (hR : R (.returned (.agg cs)) w) : bodyPost P fn R .ret ⟨tmps, []⟩ w :=
  bodyPost_ret (v := .agg cs) (results_cell_row h tmps w g t cs (0, 0) d hp hg hu (by cases d <;> first | rfl | exact hd) hi) rfl hR
end Mem
end Go.Proofs.Ytfbhbdllbapnpaa
namespace Go.Proofs.Ytfbhbdllbapnpaa
namespace Mem
open Go.RowKit
section
variable {P : Program} {ops : Array Oper} {md : Region.Mode} {Q : Exit → Act → World → Prop} {S : World → Prop}

theorem ev_tmp (l : List Value) (d : List Deferred) (t : Nat) : (⟨l.toArray, d⟩ : Act).eval (.tmp t) = l.getD t undef := by simp [Act.eval]
theorem ev_zero (v : Value) (l : List Value) (d : List Deferred) : (⟨(v :: l).toArray, d⟩ : Act).eval (.tmp 0) = v := by simp [Act.eval]
theorem ev_none (a : Act) : (#[] : Array Operand).map a.eval = #[] := Array.map_empty
theorem ev_const (a : Act) (v : Value) : a.eval (.const v) = v := rfl
theorem ev_global (a : Act) (g : Nat) : a.eval (.global g) = .pointer (some ⟨g, 0, none⟩) := rfl
theorem u64_in (n : Nat) (h : n < 18446744073709551616) : IntKind.u64.wrap (n : Int) = (n : Int) := by
  simp [IntKind.wrap, IntKind.bits, IntKind.signed]; omega
/-- A cell of an array by value. -/
theorem run_index_row {P : Program} {ty e : TypeId} {n : Nat} (hu : P.underlying ty = some (.array n e)) {de : TypeDesc} (he : P.underlying e = some de) (hde : de.isRow = false) (hs : (P.info? e).map (·.size) = some 1) (C : Array Value) (k : Nat) (hk : k < n) (v : Value) (hv : C[k]? = some v) (w : World) :
    (Instr.index ty (.agg C) (.int .i64 (k : Int))).run P w = .ok v w := by
  have hagg : (isAgg e).run P w = .ok false w := by
    unfold isAgg
    rw [Sem.run_bind, run_underlying he w]
    cases de <;> simp_all
  cases hq : P.info? e with
  | none => simp [hq] at hs
  | some q =>
    have hs1 : q.size = 1 := by simpa [hq] using hs
    simp [Instr.index, asIntOf, Sem.run_bind, run_underlying hu, sizeOf, typeInfo, hq, hs1, hk, part, hagg, hv]
/-- An operation on two values in a plain region, guarded or not. -/
theorem wpList_bin {P : Program} {ops : Array Oper} {rest : List Oper} {o : Oper} {a : Act} {w : World} {Q : Exit → Act → World → Prop} (hw : Region.wanted o (yielded ops a.tmps) = true) (op : BinOp) (t t2 : TypeId) (x y : Operand) (vx vy v : Value)
    (hop : o.op = .binOp op t x y t2) (hx : a.eval x = vx) (hy : a.eval y = vy) (hv : ∀ w', (do eqGuard op t x y vx vy; binOp op t vx vy : Sem Value).run P w' = .ok v w') (h : wpList P ops Q rest (a.put o.dst v) w) : wpList P ops Q (o :: rest) a w := by
  unfold wpList
  rw [if_pos hw]
  left
  unfold Oper.wp
  have : (execOp a.eval o).run P w = .ok (.value v) w := by
    have := hv w
    simp only [execOp, hop, hx, hy]
    rw [Sem.run_bind, this]; rfl
  rw [this]
  exact h
/-- In which order the operations are walked: number i is taken first; it comes up alone; one of two, of three comes up. -/
inductive Plan where
  | done
  | take (i : Nat) (r : Plan)
  | sole (i : Nat) (r : Plan)
  | two (i j : Nat) (r s : Plan)
  | three (i j k : Nat) (r s t : Plan)
  | narrow (r : Plan)   -- from here on a narrower class of worlds
/-- Does it serve? -/
def planB (md : Region.Mode) (ops : Array Oper) : Plan → Nat → Array Bool → Bool
  | .done, _, listed => (Region.ready md ops listed).isEmpty
  | .take i r, n + 1, listed => (Region.ready md ops listed).contains i && Region.free md ops listed i && planB md ops r n (listed.setIfInBounds i true)
  | .sole i r, n + 1, listed => decide (Region.ready md ops listed = [i]) && planB md ops r n (listed.setIfInBounds i true)
  | .two i j r s, n + 1, listed => decide (Region.ready md ops listed = [i, j]) && planB md ops r n (listed.setIfInBounds i true) && planB md ops s n (listed.setIfInBounds j true)
  | .three i j k r s t, n + 1, listed => decide (Region.ready md ops listed = [i, j, k]) && planB md ops r n (listed.setIfInBounds i true) && planB md ops s n (listed.setIfInBounds j true) && planB md ops t n (listed.setIfInBounds k true)
  | .narrow r, n, listed => planB md ops r n listed
  | .take .., 0, _ => false
  | .sole .., 0, _ => false
  | .two .., 0, _ => false
  | .three .., 0, _ => false

def wpPlan (P : Program) (ops : Array Oper) (Q : Exit → Act → World → Prop) : (World → Prop) → Plan → Act → World → Prop
  | _, .done, a, w => Q .normal a w
  | S, .narrow r, a, w => ∃ S', (S' w ∧ ∀ x, S' x → S x) ∧ wpPlan P ops Q S' r a w
  | S, .take i r, a, w => ∃ o, ops[i]? = some o ∧
    ((Region.wanted o (yielded ops a.tmps) = false ∧ wpPlan P ops Q S r (a.put o.dst undef) w) ∨
      (Region.wanted o (yielded ops a.tmps) = true ∧ ∃ v, (∀ w', S w' → (execOp a.eval o).run P w' = .ok (.value v) w') ∧ wpPlan P ops Q S r (a.put o.dst v) w))
  | S, .sole i r, a, w => wpOp P ops Q i (fun a' w' => S w' ∧ wpPlan P ops Q S r a' w') a w
  | S, .two i j r s, a, w => wpOp P ops Q i (fun a' w' => S w' ∧ wpPlan P ops Q S r a' w') a w ∧ wpOp P ops Q j (fun a' w' => S w' ∧ wpPlan P ops Q S s a' w') a w
  | S, .three i j k r s t, a, w => wpOp P ops Q i (fun a' w' => S w' ∧ wpPlan P ops Q S r a' w') a w ∧ wpOp P ops Q j (fun a' w' => S w' ∧ wpPlan P ops Q S s a' w') a w ∧ wpOp P ops Q k (fun a' w' => S w' ∧ wpPlan P ops Q S t a' w') a w

theorem wpAnyH_narrow {S S' : World → Prop} (hle : ∀ x, S' x → S x) : ∀ (n : Nat) (listed : Array Bool) (a : Act) (w : World), wpAnyH P md ops Q S' n listed a w → wpAnyH P md ops Q S n listed a w
  | 0, _, _, _, h => h
  | n + 1, _, _, _, h => ⟨h.1, fun i hi => wpOp_mono (fun a' w' h' => ⟨hle _ h'.1, wpAnyH_narrow hle n _ a' w' h'.2⟩) (h.2 i hi)⟩
theorem wpAnyH_of_plan (hs : Region.noSelect ops = true) (hQ : ∀ c (a : Act) d v w, Q (.panic c) (a.put d v) w → Q (.panic c) a w) :
    ∀ (l : Plan) (S : World → Prop) (n : Nat) (listed : Array Bool) (a : Act) (w : World), planB md ops l n listed = true → S w → wpPlan P ops Q S l a w → wpAnyH P md ops Q S n listed a w
  | .narrow r, S, n, listed, a, w, hB, _, h => by
    obtain ⟨S', ⟨h1, h2⟩, h3⟩ := h
    exact wpAnyH_narrow h2 n listed a w (wpAnyH_of_plan hs hQ r S' n listed a w (by cases n <;> simpa [planB] using hB) h1 h3)
  | .done, S, n, listed, a, w, hB, _, h => wpAnyH_done (by cases n <;> simpa [planB] using hB) h _
  | .take i r, S, n + 1, listed, a, w, hB, hS, h => by
    simp only [planB, Bool.and_eq_true] at hB
    obtain ⟨⟨hr, hf⟩, hB'⟩ := hB
    obtain ⟨o, ho, h⟩ := h
    rcases h with ⟨hw, h⟩ | ⟨hw, v, hv, h⟩
    · exact wpAnyH_take ho hs hf hr (fun c a w => hQ c a _ _ w) (.inr ⟨hw, rfl⟩) hS (wpAnyH_of_plan hs hQ r S n _ _ w hB' hS h)
    · exact wpAnyH_take ho hs hf hr (fun c a w => hQ c a _ _ w) (.inl ⟨hw, hv⟩) hS (wpAnyH_of_plan hs hQ r S n _ _ w hB' hS h)
  | .sole i r, S, n + 1, listed, a, w, hB, hS, h => by
    simp only [planB, Bool.and_eq_true, decide_eq_true_eq] at hB
    obtain ⟨hr, hB'⟩ := hB
    refine wpAnyH_all hr (by simp) fun j hj => ?_
    obtain rfl : j = i := by simpa using hj
    exact wpOp_mono (fun a' w' h' => ⟨h'.1, wpAnyH_of_plan hs hQ r S n _ _ w' hB' h'.1 h'.2⟩) h
  | .two i j r s, S, n + 1, listed, a, w, hB, hS, h => by
    simp only [planB, Bool.and_eq_true, decide_eq_true_eq] at hB
    obtain ⟨⟨hr, hB1⟩, hB2⟩ := hB
    refine wpAnyH_all hr (by simp) fun x hx => ?_
    rcases List.mem_cons.1 hx with rfl | hx
    · exact wpOp_mono (fun a' w' h' => ⟨h'.1, wpAnyH_of_plan hs hQ r S n _ _ w' hB1 h'.1 h'.2⟩) h.1
    · obtain rfl : x = j := by simpa using hx
      exact wpOp_mono (fun a' w' h' => ⟨h'.1, wpAnyH_of_plan hs hQ s S n _ _ w' hB2 h'.1 h'.2⟩) h.2
  | .three i j k r s t, S, n + 1, listed, a, w, hB, hS, h => by
    simp only [planB, Bool.and_eq_true, decide_eq_true_eq] at hB
    obtain ⟨⟨⟨hr, hB1⟩, hB2⟩, hB3⟩ := hB
    refine wpAnyH_all hr (by simp) fun x hx => ?_
    rcases List.mem_cons.1 hx with rfl | hx
    · exact wpOp_mono (fun a' w' h' => ⟨h'.1, wpAnyH_of_plan hs hQ r S n _ _ w' hB1 h'.1 h'.2⟩) h.1
    · rcases List.mem_cons.1 hx with rfl | hx
      · exact wpOp_mono (fun a' w' h' => ⟨h'.1, wpAnyH_of_plan hs hQ s S n _ _ w' hB2 h'.1 h'.2⟩) h.2.1
      · obtain rfl : x = k := by simpa using hx
        exact wpOp_mono (fun a' w' h' => ⟨h'.1, wpAnyH_of_plan hs hQ t S n _ _ w' hB3 h'.1 h'.2⟩) h.2.2
  | .take .., _, 0, _, _, _, hB, _, _ => by simp [planB] at hB
  | .sole .., _, 0, _, _, _, hB, _, _ => by simp [planB] at hB
  | .two .., _, 0, _, _, _, hB, _, _ => by simp [planB] at hB
  | .three .., _, 0, _, _, _, hB, _, _ => by simp [planB] at hB

/-- The beginning: the class is 'all that was there is as it was'; no way out by panic is borne. -/
theorem wp_region_plan {id : Nat} {a : Act} {w : World} (l : Plan) (hm : P.follows .mixedOrders = true) (hs : Region.noSelect ops = true) (hB : planB .any ops l ops.size (Array.replicate ops.size false) = true)
    (h : wpPlan P ops (NoPanic Q) (fun w' => Below w.heap.size w w') l a w.drew) : (Code.region id ops true).wp P Q a w :=
  wp_region_noPanic (wp_region_held (S := fun w' => Below w.heap.size w w') hm
    (wpAnyH_of_plan (md := .any) hs (fun _ _ _ _ _ h => h) l _ _ _ a _ hB ((Below.refl _ _).drew) h))

/-- The same, the class chosen by hand. -/
theorem wp_region_plan_in {id : Nat} {a : Act} {w : World} (S : World → Prop) (l : Plan) (hm : P.follows .mixedOrders = true) (hs : Region.noSelect ops = true) (hB : planB .any ops l ops.size (Array.replicate ops.size false) = true) (hS : S w.drew)
    (h : wpPlan P ops (NoPanic Q) S l a w.drew) : (Code.region id ops true).wp P Q a w :=
  wp_region_noPanic (wp_region_held (S := S) hm (wpAnyH_of_plan (md := .any) hs (fun _ _ _ _ _ h => h) l _ _ _ a _ hB hS h))
/-- All blocks but one are as they were. -/
structure But (b : Nat) (w w' : World) : Prop where
  size : w.heap.size ≤ w'.heap.size
  block : ∀ k, k < w.heap.size → k ≠ b → w'.heap[k]? = w.heap[k]?
theorem But.refl (b : Nat) (w : World) : But b w w := ⟨Nat.le_refl _, fun _ _ _ => rfl⟩
theorem But.below {b : Nat} {w w' w2 : World} (h : But b w w') (hb : Below w'.heap.size w' w2) : But b w w2 :=
  ⟨Nat.le_trans h.size hb.size, fun k hk hne => (hb.block k (Nat.lt_of_lt_of_le hk h.size)).trans (h.block k hk hne)⟩
theorem But.row {b : Nat} {w w' w2 : World} (h : But b w w') (hs : w'.heap.size ≤ w2.heap.size) (o : ∀ k, k ≠ b → w2.heap[k]? = w'.heap[k]?) : But b w w2 :=
  ⟨Nat.le_trans h.size hs, fun k hk hne => (o k hne).trans (h.block k hk hne)⟩
theorem At.but {b c : Nat} {w w' : World} {C : Array Value} {t : TypeId} (h : At w c C t) (hb : But b w w') (hne : c ≠ b) : At w' c C t := by
  have := h.lt
  unfold At at *
  rw [hb.block c this hne]; exact h
variable {i j k : Nat} {r s t : Plan} {a : Act} {w : World} {o : Oper}
theorem plan_nil (h : Q .normal a w) : wpPlan P ops (NoPanic Q) S .done a w := h
theorem plan_narrow {S : World → Prop} (S' : World → Prop) (h1 : S' w) (h2 : ∀ x, S' x → S x) (h : wpPlan P ops Q S' r a w) : wpPlan P ops Q S (.narrow r) a w := ⟨S', ⟨h1, h2⟩, h⟩
theorem plan_skip (ho : ops.toList[i]? = some o) (hw : Region.wanted o (yielded ops a.tmps) = false) (h : wpPlan P ops Q S r (a.put o.dst undef) w) : wpPlan P ops Q S (.take i r) a w :=
  ⟨o, by rw [← Array.getElem?_toList]; exact ho, .inl ⟨hw, h⟩⟩
theorem plan_take (v : Value) (ho : ops.toList[i]? = some o) (hw : Region.wanted o (yielded ops a.tmps) = true) (hv : ∀ w', S w' → (execOp a.eval o).run P w' = .ok (.value v) w') (h : wpPlan P ops Q S r (a.put o.dst v) w) :
    wpPlan P ops Q S (.take i r) a w :=
  ⟨o, by rw [← Array.getElem?_toList]; exact ho, .inr ⟨hw, v, hv, h⟩⟩
theorem wpOp_at {K : Act → World → Prop} (ho : ops.toList[i]? = some o) (hw : Region.wanted o (yielded ops a.tmps) = true) (h : o.wp P a w K Q) : wpOp P ops Q i K a w := by
  have ho' : ops[i]? = some o := by rw [← Array.getElem?_toList]; exact ho
  unfold wpOp
  simp only [ho', hw, if_true]
  exact .inl h
/-- Whichever of two, of three comes up: each as if it came up alone. -/
theorem plan_two (h1 : wpPlan P ops Q S (.sole i r) a w) (h2 : wpPlan P ops Q S (.sole j s) a w) : wpPlan P ops Q S (.two i j r s) a w := ⟨h1, h2⟩
theorem plan_three (h1 : wpPlan P ops Q S (.sole i r) a w) (h2 : wpPlan P ops Q S (.sole j s) a w) (h3 : wpPlan P ops Q S (.sole k t) a w) : wpPlan P ops Q S (.three i j k r s t) a w := ⟨h1, h2, h3⟩
theorem plan_move (x : Operand) (v : Value) (ho : ops.toList[i]? = some o) (hw : Region.wanted o (yielded ops a.tmps) = true) (hop : o.op = .move x ∨ o.op = .assign x) (hx : a.eval x = v) (h : wpPlan P ops Q S r (a.put o.dst v) w) :
    wpPlan P ops Q S (.take i r) a w :=
  plan_take v ho hw (fun w' _ => by rcases hop with hop | hop <;> simp [execOp, hop, hx]) h
theorem plan_pick (c x y : Operand) (b : Bool) (v : Value) (ho : ops.toList[i]? = some o) (hw : Region.wanted o (yielded ops a.tmps) = true) (hop : o.op = .pick c x y) (hc : a.eval c = .bool b) (hx : (if b then a.eval x else a.eval y) = v) (h : wpPlan P ops Q S r (a.put o.dst v) w) :
    wpPlan P ops Q S (.take i r) a w :=
  plan_take v ho hw (fun w' _ => by simp [execOp, hop, hc, asBool, ← hx]) h
theorem plan_pick_t (c x y : Operand) (v : Value) (ho : ops.toList[i]? = some o) (hw : Region.wanted o (yielded ops a.tmps) = true) (hop : o.op = .pick c x y) (hc : a.eval c = .bool true) (hx : a.eval x = v) (h : wpPlan P ops Q S r (a.put o.dst v) w) :
    wpPlan P ops Q S (.take i r) a w := plan_pick c x y true v ho hw hop hc hx h
theorem plan_pick_f (c x y : Operand) (v : Value) (ho : ops.toList[i]? = some o) (hw : Region.wanted o (yielded ops a.tmps) = true) (hop : o.op = .pick c x y) (hc : a.eval c = .bool false) (hx : a.eval y = v) (h : wpPlan P ops Q S r (a.put o.dst v) w) :
    wpPlan P ops Q S (.take i r) a w := plan_pick c x y false v ho hw hop hc hx h
theorem plan_bin (op : BinOp) (t t2 : TypeId) (x y : Operand) (vx vy v : Value) (ho : ops.toList[i]? = some o) (hw : Region.wanted o (yielded ops a.tmps) = true) (hop : o.op = .binOp op t x y t2) (hx : a.eval x = vx) (hy : a.eval y = vy)
    (hv : ∀ w', (do eqGuard op t x y vx vy; binOp op t vx vy : Sem Value).run P w' = .ok v w') (h : wpPlan P ops Q S r (a.put o.dst v) w) :
    wpPlan P ops Q S (.take i r) a w :=
  plan_take v ho hw (fun w' _ => by
    have := hv w'
    simp only [execOp, hop, hx, hy]
    rw [Sem.run_bind, this]; rfl) h
theorem plan_conv (t1 t2 : TypeId) (x : Operand) (vx v : Value) (ho : ops.toList[i]? = some o) (hw : Region.wanted o (yielded ops a.tmps) = true) (hop : o.op = .convert t1 t2 x) (hx : a.eval x = vx)
    (hv : ∀ w', (convert t1 t2 vx).run P w' = .ok v w') (h : wpPlan P ops Q S r (a.put o.dst v) w) : wpPlan P ops Q S (.take i r) a w :=
  plan_take v ho hw (fun w' _ => by
    have := hv w'
    simp only [execOp, hop, hx]
    rw [Sem.run_bind, this]; rfl) h
theorem plan_build (ty : TypeId) (parts : Array (Nat × Operand)) (ps : Array (Nat × Value)) (v : Value) (ho : ops.toList[i]? = some o) (hw : Region.wanted o (yielded ops a.tmps) = true) (hop : o.op = .build ty parts) (hps : (parts.map fun (i, x) => (i, a.eval x)) = ps)
    (hv : ∀ w', (Instr.build ty ps).run P w' = .ok v w') (h : wpPlan P ops Q S r (a.put o.dst v) w) : wpPlan P ops Q S (.take i r) a w :=
  plan_take v ho hw (fun w' _ => by
    have := hv w'
    simp only [execOp, hop, hps]
    rw [Sem.run_bind, this]; rfl) h
/-- An array cut from end to end. -/
theorem plan_cut (ty : TypeId) (x : Operand) (n : Nat) (elem : TypeId) (b c : Nat) (ho : ops.toList[i]? = some o) (hw : Region.wanted o (yielded ops a.tmps) = true) (hop : o.op = .slice ty x none none none) (hx : a.eval x = .pointer (some ⟨b, c, none⟩))
    (hu : P.underlying ty = some (.array n elem)) (hs : (P.info? elem).map (·.size) = some 1) (h : wpPlan P ops Q S r (a.put o.dst (.slice (some ⟨b, c, none⟩) n n)) w) : wpPlan P ops Q S (.take i r) a w :=
  plan_take _ ho hw (fun w' _ => by
    cases hq : P.info? elem with
    | none => simp [hq] at hs
    | some q =>
      have hs1 : q.size = 1 := by simpa [hq] using hs
      have hat : (Instr.sliceAt ty (.pointer (some ⟨b, c, none⟩)) none none none).run P w' = .ok (.slice (some ⟨b, c, none⟩) n n) w' := by
        simp [Instr.sliceAt, Instr.sureAddr, Instr.sliceBounds, Sem.run_bind, run_underlying hu, sizeOf, typeInfo, hq, Addr.add_mid]
      unfold execOp
      simp only [hop, hx, Option.map_none, Sem.run_bind, hat, Result.andThen_ok, Sem.run_pure]) h
/-- A load of several cells that all of the class have. -/
theorem plan_row (ty : TypeId) (x : Operand) (b : Nat) (d : TypeDesc) (C : Array Value) (t : TypeId) (ho : ops.toList[i]? = some o) (hw : Region.wanted o (yielded ops a.tmps) = true) (hop : o.op = .load ty x) (hx : a.eval x = .pointer (some ⟨b, 0, none⟩))
    (hC : ∀ w', S w' → At w' b C t) (hu : P.underlying ty = some d) (hd : d.isRow = true) (hi : (P.info? ty).map (·.size) = some C.size) (h : wpPlan P ops Q S r (a.put o.dst (.agg C)) w) :
    wpPlan P ops Q S (.take i r) a w :=
  plan_take _ ho hw (fun w' hw' => by
    have hr := run_loadAt_mid (P := P) w' b 0 ty (C.extract 0 (0 + C.size)).toList d ((hC w' hw').range 0 C.size) hu hd (by rw [hi]; simp)
    unfold execOp
    simp only [hop, hx, Sem.run_bind, hr, Result.andThen_ok, Sem.run_pure]
    simp) h
theorem plan_len (xs : Array Operand) (ats : Array TypeId) (x : Operand) (s : Option Addr) (n c : Nat) (ho : ops.toList[i]? = some o) (hw : Region.wanted o (yielded ops a.tmps) = true) (hop : o.op = .call { callee := .builtin .len, args := xs, argTypes := ats }) (hxs : xs = #[x]) (hx : a.eval x = .slice s n c)
    (hr : ∀ w' : World, (Builtin.len_ ats o.type #[.slice s n c]).run P w' = .ok (.int .i64 n) w')
    (h : wpPlan P ops Q S r (a.put o.dst (.int .i64 n)) w) : wpPlan P ops Q S (.take i r) a w :=
  plan_take _ ho hw (fun w' _ => by
    subst hxs
    obtain ⟨dst, op, type, pos, after, guard⟩ := o
    simp only at hop
    subst hop
    rw [BigFrame.execOp_builtin]
    simp [hx, BigFrame.builtin_len, hr w']) h
/-- Is it a function with a body? -/
def enters (P : Program) (f : FuncId) : Bool := match P.funcs[f]? with
  | some fn => !(fn.name == "runtime.NumGoroutine") && !fn.body.isNone
  | none => false
theorem run_enters {f : FuncId} (h : enters P f = true) (vs : Array Value) (w : World) : (callFunc f vs).run P w = .ok (.enter f vs) w := by
  unfold enters at h
  split at h
  · rename_i fn hf
    simp only [Bool.and_eq_true, Bool.not_eq_true'] at h
    have hn : ¬ fn.name = "runtime.NumGoroutine" := fun e => by have := h.1; rw [e] at this; exact absurd this (by decide)
    have hb : ¬ fn.body = none := fun e => by have := h.2; rw [e] at this; cases this
    simp [callFunc, Sem.run_bind, run_program, hf, hn, hb]
  · cases h
/-- A call that comes up alone. -/
theorem plan_call (f : FuncId) (xs : Array Operand) (ats : Array TypeId) (vs : Array Value) (hf : enters P f = true) (ho : ops.toList[i]? = some o) (hw : Region.wanted o (yielded ops a.tmps) = true) (hop : o.op = .call { callee := .value (.func f), args := xs, argTypes := ats }) (hxs : xs.map a.eval = vs)
    (h : Calls P f vs w fun e w' => ∃ v, e = .returned v ∧ S w' ∧ wpPlan P ops Q S r (a.put o.dst v) w') : wpPlan P ops Q S (.sole i r) a w := by
  refine wpOp_at ho hw ?_
  obtain ⟨dst, op, type, pos, after, guard⟩ := o
  simp only at hop
  subst hop
  unfold Oper.wp
  rw [execOp_call_go]
  have : (callFunc f (#[] ++ xs.map a.eval ++ #[])).run P w = .ok (.enter f vs) w := by
    rw [hxs]; simp [run_enters hf]
  rw [this]
  exact h.mono fun e w' ⟨v, he, hS, hp⟩ => by subst he; exact ⟨hS, hp⟩
/-- An unwanted operation that comes up alone. -/
theorem plan_sole_skip (ho : ops.toList[i]? = some o) (hw : Region.wanted o (yielded ops a.tmps) = false) (hS : S w) (h : wpPlan P ops Q S r (a.put o.dst undef) w) : wpPlan P ops Q S (.sole i r) a w := by
  have ho' : ops[i]? = some o := by rw [← Array.getElem?_toList]; exact ho
  unfold wpPlan wpOp
  simp only [ho', hw, Bool.false_eq_true, if_false]
  exact ⟨hS, h⟩
/-- A variable that is made. -/
theorem plan_alloc (ty : TypeId) (Z : Array Value) (ho : ops.toList[i]? = some o) (hw : Region.wanted o (yielded ops a.tmps) = true) (hop : o.op = .alloc ty) (hr : ∀ w : World, (Instr.alloc ty true (.tuple #[])).run P w = .ok (.pointer (some ⟨w.heap.size, 0, none⟩)) (w.alloc (.cells Z ty)))
    (hS : S (w.alloc (.cells Z ty))) (h : wpPlan P ops Q S r (a.put o.dst (.pointer (some ⟨w.heap.size, 0, none⟩))) (w.alloc (.cells Z ty))) : wpPlan P ops Q S (.sole i r) a w := by
  refine wpOp_at ho hw ?_
  unfold Oper.wp execOp
  simp only [hop, Sem.run_bind, hr, Result.andThen_ok, Sem.run_pure]
  exact ⟨hS, h⟩
/-- A store of several cells over a block known whole that the class does not speak of. -/
theorem plan_store (ty : TypeId) (x y : Operand) (b : Nat) (D C : Array Value) (t : TypeId) (ho : ops.toList[i]? = some o) (hw : Region.wanted o (yielded ops a.tmps) = true) (hop : o.op = .store ty x y) (hdst : o.dst = none)
    (hx : a.eval x = .pointer (some ⟨b, 0, none⟩)) (hy : a.eval y = .agg D) (hi : (P.info? ty).map (·.size) = some D.size) (hC : At w b C t) (hn : D.size = C.size) (h1 : D.all (·.oneCell') = true) (hS : S (w.setRow b D))
    (h : wpPlan P ops Q S r a (w.setRow b D)) : wpPlan P ops Q S (.sole i r) a w := by
  refine wpOp_at ho hw ?_
  have hput : a.put o.dst undef = a := by rw [hdst]; rfl
  refine wp_store_mid ty x y hop b 0 D hx hy (fun j hj => ?_) hi h1 ?_
  · rw [hC.cell, hC.free]
    exact ⟨by simp; omega, rfl⟩
  · rw [setCells_row _ _ _ _ _ hC (by simpa using Nat.le_of_eq hn), hput, splice_all C D hn]; exact ⟨hS, h⟩
/-- The same, what follows asked in a world of which this is known. -/
theorem plan_alloc_any (ty : TypeId) (Z : Array Value) (ho : ops.toList[i]? = some o) (hw : Region.wanted o (yielded ops a.tmps) = true) (hop : o.op = .alloc ty) (hr : ∀ w : World, (Instr.alloc ty true (.tuple #[])).run P w = .ok (.pointer (some ⟨w.heap.size, 0, none⟩)) (w.alloc (.cells Z ty)))
    (hS : ∀ W', (∀ B x, Below B x w → B ≤ w.heap.size → Below B x W') → S W')
    (h : ∀ b W', At W' b Z ty → w.heap.size ≤ b → (∀ k C t', At w k C t' → At W' k C t' ∧ k ≠ b) → (∀ B x, Below B x w → B ≤ w.heap.size → Below B x W') → wpPlan P ops Q S r (a.put o.dst (.pointer (some ⟨b, 0, none⟩))) W') : wpPlan P ops Q S (.sole i r) a w :=
  plan_alloc ty Z ho hw hop hr (hS _ fun _ _ hb hB => hb.alloc hB _) (h _ _ (at_new w Z ty) (Nat.le_refl _) (fun _ _ _ hk => ⟨hk.alloc _, Nat.ne_of_lt hk.lt⟩) fun _ _ hb hB => hb.alloc hB _)
theorem plan_store_any (ty : TypeId) (x y : Operand) (b : Nat) (D C : Array Value) (t : TypeId) (ho : ops.toList[i]? = some o) (hw : Region.wanted o (yielded ops a.tmps) = true) (hop : o.op = .store ty x y) (hdst : o.dst = none)
    (hx : a.eval x = .pointer (some ⟨b, 0, none⟩)) (hy : a.eval y = .agg D) (hi : (P.info? ty).map (·.size) = some D.size) (hC : At w b C t) (hn : D.size = C.size) (h1 : D.all (·.oneCell') = true)
    (hS : ∀ W', (∀ B x, Below B x w → B ≤ b → Below B x W') → S W')
    (h : ∀ W', At W' b D t → (∀ k E t', At w k E t' → k ≠ b → At W' k E t') → (∀ B x, Below B x w → B ≤ b → Below B x W') → wpPlan P ops Q S r a W') : wpPlan P ops Q S (.sole i r) a w :=
  plan_store ty x y b D C t ho hw hop hdst hx hy hi hC hn h1 (hS _ fun _ _ hb hB => below_row hb hB D) (h _ (hC.row D) (fun _ _ _ hk hne => hk.row_other D hne) fun _ _ hb hB => below_row hb hB D)
/-- A slice literal that comes up alone. -/
theorem plan_slice (t e : TypeId) (len : Nat) (parts : Array (Nat × Operand)) (cells : Array Value) (ho : ops.toList[i]? = some o) (hw : Region.wanted o (yielded ops a.tmps) = true) (hop : o.op = .buildSlice t len parts) (hu : P.underlying t = some (.slice e))
    (hf : P.builtSlice e len (parts.map fun (i, x) => (i, a.eval x)).toList = some cells) (hS : S (w.alloc (.cells cells e)))
    (h : wpPlan P ops Q S r (a.put o.dst (.slice (some ⟨w.heap.size, 0, none⟩) len len)) (w.alloc (.cells cells e))) : wpPlan P ops Q S (.sole i r) a w := by
  refine wpOp_at ho hw ?_
  unfold Program.builtSlice at hf
  cases hie : P.info? e with
  | none => simp [hie] at hf
  | some ie =>
    simp only [hie] at hf
    cases hz : ie.zero with
    | none => simp [hz] at hf
    | some z =>
      simp only [hz] at hf
      by_cases hc : len * ie.size > 2 ^ 24 ∨ len * ie.size = 0
      · simp [hc] at hf
      · rw [if_neg hc] at hf
        exact wp_buildSlice t e len parts hop cells ie z hu hie hz (fun h' => hc (Or.inl h')) (fun h' => hc (Or.inr h')) hf ⟨hS, h⟩
end
end Mem
end Go.Proofs.Ytfbhbdllbapnpaa
namespace Go.Proofs.Ytfbhbdllbapnpaa
namespace Mem
open Go.RowKit
/-- v is the call's own slice of the values xs (element type e), in a block from B on. -/
def OwnV (w : World) (B : Nat) (e : TypeId) (v : Value) (xs : List Value) : Prop := w.ownsRow B e 1 v xs.length xs
section
variable {P : Program} {w w' : World} {B : Nat} {e : TypeId} {v : Value} {xs : List Value}
theorem OwnV.nil (w : World) (B : Nat) (e : TypeId) : OwnV w B e (.slice none 0 0) [] := World.ownsRow_nil w B e 1
theorem OwnV.open (h : OwnV w B e v xs) : ∃ a cap, v = .slice a xs.length cap ∧ xs.length ≤ cap ∧ (xs ≠ [] → ∃ g, a = some ⟨g, 0, none⟩ ∧ B ≤ g ∧ g < w.heap.size ∧ ∀ i u, xs[i]? = some u → w.cell? ⟨g, i, none⟩ = some u) := by
  obtain ⟨_, h | ⟨g, cap, cur, rfl, hg, hh, hn, hc, hs, ht⟩⟩ := h
  · obtain ⟨rfl, h0⟩ := h
    exact ⟨none, 0, by rw [h0], by omega, fun hne => absurd (List.eq_nil_of_length_eq_zero h0) hne⟩
  · refine ⟨_, cap, rfl, hn, fun _ => ⟨g, rfl, hg, (Array.getElem?_eq_some_iff.1 hh).1, fun i u hu => ?_⟩⟩
    have hi := (List.getElem?_eq_some_iff.1 hu).1
    rw [cell_of_row w g i cur _ (0, 0) hh]
    have h1 : (cur.toList.take (xs.length * 1))[i]? = xs[i]? := by rw [ht]
    rw [List.getElem?_take, if_pos (by omega)] at h1
    rw [← Array.getElem?_toList, h1, hu]
theorem OwnV.keep (h : OwnV w B e v xs) (hk : ∀ g, v.ownBlock = some g → w'.heap[g]? = w.heap[g]?) : OwnV w' B e v xs := by
  refine ⟨h.1, ?_⟩
  rcases h.2 with hn | ⟨g, cap, cur, rfl, hg, hh, hr⟩
  · exact .inl hn
  · exact .inr ⟨g, cap, cur, rfl, hg, by rw [hk g rfl]; exact hh, hr⟩
theorem OwnV.lt (h : OwnV w B e v xs) : ∀ k, v.ownBlock = some k → B ≤ k ∧ k < w.heap.size := World.ownsRow.lt h
theorem OwnV.below (h : OwnV w B e v xs) (hb : Below w.heap.size w w') : OwnV w' B e v xs := h.keep fun g hg => hb.block g (h.lt g hg).2
/-- Two own slices of other element types lie in other blocks. -/
theorem OwnV.ne_own {B' : Nat} {e' : TypeId} {v' : Value} {ys : List Value} (h : OwnV w B e v xs) (k : OwnV w B' e' v' ys) (he : e ≠ e') : ∀ g, v.ownBlock = some g → v'.ownBlock ≠ some g := by
  intro g hg hg'
  rcases h.2 with ⟨rfl, _⟩ | ⟨b, cap, cur, rfl, _, hh, _⟩
  · simp [Value.ownBlock] at hg
  rcases k.2 with ⟨rfl, _⟩ | ⟨b', cap', cur', rfl, _, hh', _⟩
  · simp [Value.ownBlock] at hg'
  have e1 : b = g := by simpa [Value.ownBlock] using hg
  have e2 : b' = g := by simpa [Value.ownBlock] using hg'
  subst e1; subst e2
  rw [hh] at hh'
  injection hh' with hh'
  injection hh' with _ h2
  exact he h2
/-- What the law of append asks of an element's type, in one closed fact. -/
def elemB (P : Program) (t e : TypeId) (z : Value) (bytes : Nat) : Prop := P.underlying t = some (.slice e) ∧ (P.info? e).map (fun i => (i.zero, i.size, i.bytes)) = some (some z, 1, bytes)
theorem run_append_lit {t ty : TypeId} {z x : Value} {bytes : Nat} (he : elemB P t e z bytes) (hz1 : z.cells.size = 1) (hown : OwnV w B e v xs) (h1 : x.oneCell' = true) (hlen : (xs.length + 1) * bytes ≤ 140737488355328) (hl2 : xs.length < 140737488355328) (hB : B ≤ w.heap.size) :
    ∃ v' w', (Builtin.append_ #[t, t] ty #[v, .slice (some ⟨w.heap.size, 0, none⟩) 1 1]).run P (w.alloc (.cells #[x] e)) = .ok v' w' ∧ OwnV w' B e v' (xs ++ [x]) ∧ (∀ k, k < w.heap.size → v.ownBlock ≠ some k → w'.heap[k]? = w.heap[k]?) ∧ Below B w w' ∧ (v'.ownBlock = v.ownBlock ∨ ∃ g, v'.ownBlock = some g ∧ w.heap.size ≤ g) := by
  obtain ⟨i0, hi, hz0, hs, hb⟩ := info_parts he.2
  have hal : Below w.heap.size w (w.alloc (.cells #[x] e)) := (Below.refl _ _).alloc (Nat.le_refl _) _
  have ho2 := hown.below hal
  have hml : 140737488355328 ≤ maxLen := by simp [maxLen]
  obtain ⟨v', w', hrun, h2, h3, _, h5⟩ := run_append_own_at (P := P) (w.alloc (.cells #[x] e)) B t ty e i0 z 1 bytes he.1 hi hz0 hs hb hz1 (by decide) v xs.length xs ho2 ⟨w.heap.size, 0, none⟩ 1 1 [x] rfl (fun j u hu => by
      have hj : j = 0 := by
        have := (List.getElem?_eq_some_iff.1 hu).1
        simpa using this
      subst hj
      have hx : x = u := by simpa using hu
      rw [Addr.add_mid, (at_new w #[x] e).cell, ← hx]; rfl) (fun u hu => by
      have hx : u = x := by simpa using hu
      rw [hx]; exact h1) (by omega) hlen (Nat.le_trans hB hal.size)
  refine ⟨v', w', hrun, ?_, fun k hk hne => ?_, ?_, ?_⟩
  · unfold OwnV
    rw [List.length_append]
    exact h2
  · rw [h3.block k (Nat.lt_of_lt_of_le hk hal.size) (fun e => hne e.symm), hal.block k hk]
  · exact (hal.mono hB).grown h3 (Nat.le_trans hB hal.size) (fun g hg => (hown.lt g hg).1)
  · rcases h5 with h5 | h5
    · exact .inl h5
    · exact .inr ⟨_, h5, hal.size⟩
/-- What the old header read it reads behind an append of one literal, too: it wrote behind its end, or elsewhere. -/
theorem append_lit_stays {t ty : TypeId} {z x v' : Value} {bytes : Nat} (he : elemB P t e z bytes) (hown : OwnV w B e v xs) (h1 : x.oneCell' = true) (hlen : (xs.length + 1) * bytes ≤ 140737488355328) (hl2 : xs.length < 140737488355328)
    (hrun : (Builtin.append_ #[t, t] ty #[v, .slice (some ⟨w.heap.size, 0, none⟩) 1 1]).run P (w.alloc (.cells #[x] e)) = .ok v' w') (ho' : OwnV w' B e v' (xs ++ [x])) :
    ∀ g i u, v.ownBlock = some g → xs[i]? = some u → w'.cell? ⟨g, i, none⟩ = some u := by
  obtain ⟨i0, hi, hz0, hs, hb⟩ := info_parts he.2
  intro g i u hg hu
  have hal : Below w.heap.size w (w.alloc (.cells #[x] e)) := (Below.refl _ _).alloc (Nat.le_refl _) _
  have ho2 := hown.below hal
  have hcell := World.ownsRow.cells ho2 hg
  rcases ho2.2 with ⟨rfl, _⟩ | ⟨g', cap, cur, rfl, hbg, hgg, hnc, hcm, hcs, htake⟩
  · simp [Value.ownBlock] at hg
  obtain rfl : g' = g := by simpa [Value.ownBlock] using hg
  have hnew : ∀ j u, [x][j]? = some u → (w.alloc (.cells #[x] e)).cell? ((⟨w.heap.size, 0, none⟩ : Addr).add j) = some u := fun j u hu => by
    have hj : j = 0 := by
      have := (List.getElem?_eq_some_iff.1 hu).1
      simpa using this
    subst hj
    have hx : x = u := by simpa using hu
    rw [Addr.add_mid, (at_new w #[x] e).cell, ← hx]; rfl
  by_cases hroom : xs.length + 1 ≤ cap
  · have hr := run_append_room (P := P) (w.alloc (.cells #[x] e)) t ty e i0 he.1 hi g' xs.length cap cur hgg ⟨w.heap.size, 0, none⟩ 1 1 [x] (by rw [hs]; rfl) hnew (fun u hu => by
      have hx : u = x := by simpa using hu
      rw [hx]; exact h1) hroom (by rw [hs, hcs, Nat.mul_one, Nat.mul_one]; simpa using hroom)
    rw [hrun] at hr
    injection hr with hv hw
    subst hv
    have h2 := World.ownsRow.cells ho' (g := g') rfl i u (by rw [List.getElem?_append_left (List.getElem?_eq_some_iff.1 hu).1]; exact hu)
    rw [Addr.add_mid] at h2
    simpa using h2
  · have hr := run_append_grow (P := P) (w.alloc (.cells #[x] e)) t ty e i0 z he.1 hi hz0 ⟨g', 0, none⟩ xs.length cap xs (by rw [hs, Nat.mul_one]) hcell ⟨w.heap.size, 0, none⟩ 1 1 [x] (by rw [hs]; rfl) hnew (by omega) (by omega) (by rw [hb]; exact growslice_fits (by omega) hlen)
    rw [hrun] at hr
    injection hr with hv hw
    have hlt : g' < (w.alloc (.cells #[x] e)).heap.size := (Array.getElem?_eq_some_iff.1 hgg).1
    have h2 := hcell i u hu
    rw [Addr.add_mid] at h2
    have hk : w'.heap[g']? = (w.alloc (.cells #[x] e)).heap[g']? := by rw [hw]; first | exact heap_alloc_old _ _ g' hlt | exact heap_alloc_old _ _ hlt
    rw [World.cell?_of_block (a := ⟨g', i, none⟩) hk]
    simpa using h2
theorem cell_alloc {w : World} {p : Addr} {o : Obj} (h : p.block < w.heap.size) : (w.alloc o).cell? p = w.cell? p :=
  World.cell?_of_block (by first | exact heap_alloc_old _ _ h | exact heap_alloc_old _ _ _ h)
/-- A piece of a slice of one-cell elements. -/
theorem wpList_slice_mid {ops : Array Oper} {rest : List Oper} {op : Oper} {a : Act} {Q : Exit → Act → World → Prop} (hgd : op.guard = none) (ty : TypeId) (x i j : Operand) (ho : op.op = .slice ty x (some i) (some j) none)
    (elem : TypeId) (hu : P.underlying ty = some (.slice elem)) (hs : (P.info? elem).map (·.size) = some 1) (b o len cap k l : Nat) (hx : a.eval x = .slice (some ⟨b, o, none⟩) len cap) (hi : a.eval i = .int .i64 (k : Int)) (hj : a.eval j = .int .i64 (l : Int)) (hk : k ≤ l) (hl : l ≤ cap) (hkc : k < cap)
    (h : wpList P ops Q rest (a.put op.dst (.slice (some ⟨b, o + k, none⟩) (l - k) (cap - k))) w) : wpList P ops Q (op :: rest) a w := by
  refine wpList_plain hgd fun K hK => ?_
  cases hq : P.info? elem with
  | none => simp [hq] at hs
  | some q =>
    have hs1 : q.size = 1 := by simpa [hq] using hs
    have hne : ¬ cap = k := by omega
    have hkl : (k : Int) ≤ (l : Int) := by omega
    have hlc : (l : Int) ≤ (cap : Int) := by omega
    have hrun : (Instr.slice ty (.slice (some ⟨b, o, none⟩) len cap) (some (.int .i64 (k : Int))) (some (.int .i64 (l : Int))) none).run P w = .ok (.slice (some ⟨b, o + k, none⟩) (l - k) (cap - k)) w := by
      simp [Instr.slice, Instr.sliceBounds, Instr.sliceBound, asIntOf, Sem.run_bind, run_underlying hu, sizeOf, typeInfo, hq, hs1, hk, hl, hne, Addr.add_mid]
    have hat : (Instr.sliceAt ty (.slice (some ⟨b, o, none⟩) len cap) (some (.int .i64 (k : Int))) (some (.int .i64 (l : Int))) none).run P w = .ok (.slice (some ⟨b, o + k, none⟩) (l - k) (cap - k)) w := by
      simp [Instr.sliceAt, Sem.run_bind, run_underlying hu, hrun]
    unfold Oper.wp execOp
    simp only [ho, hx, hi, hj, Option.map_some, Option.map_none, Sem.run_bind, hat, Result.andThen_ok, Sem.run_pure]
    exact hK _ _ h
/-- v reads as the values xs. -/
def Rd (w : World) (v : Value) (xs : List Value) : Prop := ∃ a cap, v = .slice a xs.length cap ∧ (xs ≠ [] → ∃ p, a = some p ∧ ∀ i u, xs[i]? = some u → w.cell? (p.add i) = some u)
theorem OwnV.rd (h : OwnV w B e v xs) : Rd w v xs := by
  obtain ⟨a, cap, rfl, _, hr⟩ := h.open
  exact ⟨a, cap, rfl, fun hne => by
    obtain ⟨g, rfl, _, _, hc⟩ := hr hne
    exact ⟨_, rfl, fun i u hu => by rw [Addr.add_mid, Nat.zero_add]; exact hc i u hu⟩⟩
theorem run_append_rd {t ty : TypeId} {z vx : Value} {ys : List Value} {bytes : Nat} (he : elemB P t e z bytes) (hz1 : z.cells.size = 1) (hown : OwnV w B e v xs) (hrd : Rd w vx ys) (h1 : ∀ u ∈ ys, u.oneCell' = true) (hlen : (xs.length + ys.length) * bytes ≤ 140737488355328) (hl2 : xs.length + ys.length < 140737488355328) (hB : B ≤ w.heap.size) :
    ∃ v' w', (Builtin.append_ #[t, t] ty #[v, vx]).run P w = .ok v' w' ∧ OwnV w' B e v' (xs ++ ys) ∧ (∀ k, k < w.heap.size → v.ownBlock ≠ some k → w'.heap[k]? = w.heap[k]?) ∧ Below B w w' ∧ (v'.ownBlock = v.ownBlock ∨ ∃ g, v'.ownBlock = some g ∧ w.heap.size ≤ g) := by
  obtain ⟨i0, hi, hz0, hs, hb⟩ := info_parts he.2
  obtain ⟨a0, cap, rfl, hr⟩ := hrd
  have hml : 140737488355328 ≤ maxLen := by simp [maxLen]
  by_cases hne : ys = []
  · subst hne
    cases a0 with
    | none =>
      refine ⟨v, w, ?_, by simpa using hown, fun _ _ _ => rfl, Below.refl _ _, .inl rfl⟩
      rcases hown.2 with ⟨rfl, _⟩ | ⟨g, cap', cur, rfl, _, _, hn, _⟩
      · simp [Builtin.append_, run_underlying he.1, sizeOf, typeInfo, hi, Builtin.lenOf, Builtin.firstCells]
      · simp [Builtin.append_, run_underlying he.1, sizeOf, typeInfo, hi, Builtin.lenOf, Builtin.firstCells, hn, storeCells]
    | some ad =>
      obtain ⟨v', w', hrun, h2, h3, _, h5⟩ := run_append_own_at (P := P) w B t ty e i0 z 1 bytes he.1 hi hz0 hs hb hz1 (by decide) v xs.length xs hown ad 0 cap [] rfl (fun j u hu => by simp at hu) (fun u hu => by simp at hu) (by omega) (by simpa using hlen) hB
      refine ⟨v', w', hrun, by simpa [OwnV] using h2, fun k hk hne => h3.block k hk (fun e => hne e.symm), (Below.refl _ _).grown h3 hB (fun g hg => (hown.lt g hg).1), ?_⟩
      rcases h5 with h5 | h5
      · exact .inl h5
      · exact .inr ⟨_, h5, Nat.le_refl _⟩
  · obtain ⟨ad, rfl, hc⟩ := hr hne
    obtain ⟨v', w', hrun, h2, h3, _, h5⟩ := run_append_own_at (P := P) w B t ty e i0 z 1 bytes he.1 hi hz0 hs hb hz1 (by decide) v xs.length xs hown ad ys.length cap ys (by rw [Nat.mul_one]) hc h1 (by omega) hlen hB
    refine ⟨v', w', hrun, by unfold OwnV; rw [List.length_append]; exact h2, fun k hk hne => h3.block k hk (fun e => hne e.symm), (Below.refl _ _).grown h3 hB (fun g hg => (hown.lt g hg).1), ?_⟩
    rcases h5 with h5 | h5
    · exact .inl h5
    · exact .inr ⟨_, h5, Nat.le_refl _⟩
theorem plan_append_rd {ops : Array Oper} {o : Oper} {a : Act} {Q : Exit → Act → World → Prop} {S : World → Prop} {i : Nat} {r : Plan} (s x : Operand) (t : TypeId) (ho : ops.toList[i]? = some o) (hw : Region.wanted o (yielded ops a.tmps) = true) (hop : o.op = .call { callee := .builtin .append, args := #[s, x], argTypes := #[t, t] })
    (vx : Value) (ys : List Value) (z : Value) (bytes : Nat) (he : elemB P t e z bytes) (hz1 : z.cells.size = 1) (hs : a.eval s = v) (hown : OwnV w B e v xs) (hx : a.eval x = vx) (hrd : Rd w vx ys) (h1 : ∀ u ∈ ys, u.oneCell' = true) (hlen : (xs.length + ys.length) * bytes ≤ 140737488355328) (hl2 : xs.length + ys.length < 140737488355328) (hB : B ≤ w.heap.size)
    (h : ∀ v' w', OwnV w' B e v' (xs ++ ys) → (∀ k, k < w.heap.size → v.ownBlock ≠ some k → w'.heap[k]? = w.heap[k]?) → Below B w w' → (v'.ownBlock = v.ownBlock ∨ ∃ g, v'.ownBlock = some g ∧ w.heap.size ≤ g) → S w' ∧ wpPlan P ops Q S r (a.put o.dst v') w') :
    wpPlan P ops Q S (.sole i r) a w := by
  refine wpOp_at ho hw ?_
  obtain ⟨v', w', hrun, h2, h3, h4, h5⟩ := run_append_rd (P := P) (ty := o.type) he hz1 hown hrd h1 hlen hl2 hB
  unfold Oper.wp execOp
  simp only [hop, resolve, invoke, builtin, Sem.run_bind, Sem.run_pure, Result.andThen_ok, List.map_toArray, List.map_cons, List.map_nil, hs, hx, hrun]
  exact h v' w' h2 h3 h4 h5
theorem wpList_append_rd {ops : Array Oper} {rest : List Oper} {o : Oper} {a : Act} {Q : Exit → Act → World → Prop} (hgd : o.guard = none) (s x : Operand) (t : TypeId) (ho : o.op = .call { callee := .builtin .append, args := #[s, x], argTypes := #[t, t] })
    (vx : Value) (ys : List Value) (z : Value) (bytes : Nat) (he : elemB P t e z bytes) (hz1 : z.cells.size = 1) (hs : a.eval s = v) (hown : OwnV w B e v xs) (hx : a.eval x = vx) (hrd : Rd w vx ys) (h1 : ∀ u ∈ ys, u.oneCell' = true) (hlen : (xs.length + ys.length) * bytes ≤ 140737488355328) (hl2 : xs.length + ys.length < 140737488355328) (hB : B ≤ w.heap.size)
    (h : ∀ v' w', OwnV w' B e v' (xs ++ ys) → (∀ k, k < w.heap.size → v.ownBlock ≠ some k → w'.heap[k]? = w.heap[k]?) → Below B w w' → (v'.ownBlock = v.ownBlock ∨ ∃ g, v'.ownBlock = some g ∧ w.heap.size ≤ g) → wpList P ops Q rest (a.put o.dst v') w') :
    wpList P ops Q (o :: rest) a w := by
  refine wpList_plain hgd fun K hK => ?_
  obtain ⟨v', w', hrun, h2, h3, h4, h5⟩ := run_append_rd (P := P) (ty := o.type) he hz1 hown hrd h1 hlen hl2 hB
  unfold Oper.wp execOp
  simp only [ho, resolve, invoke, builtin, Sem.run_bind, Sem.run_pure, Result.andThen_ok, List.map_toArray, List.map_cons, List.map_nil, hs, hx, hrun]
  exact hK _ _ (h v' w' h2 h3 h4 h5)
/-- As an arm of the walk: the literal's block is the world's last one. -/
theorem wpList_append_lit {ops : Array Oper} {rest : List Oper} {o : Oper} {a : Act} {Q : Exit → Act → World → Prop} (hgd : o.guard = none) (s x : Operand) (t : TypeId) (ho : o.op = .call { callee := .builtin .append, args := #[s, x], argTypes := #[t, t] })
    (u z : Value) (bytes : Nat) (he : elemB P t e z bytes) (hz1 : z.cells.size = 1) (hs : a.eval s = v) (hown : OwnV w B e v xs) (hx : a.eval x = .slice (some ⟨w.heap.size, 0, none⟩) 1 1) (h1 : u.oneCell' = true) (hlen : (xs.length + 1) * bytes ≤ 140737488355328) (hl2 : xs.length < 140737488355328) (hB : B ≤ w.heap.size)
    (h : ∀ v' w', OwnV w' B e v' (xs ++ [u]) → (∀ k, k < w.heap.size → v.ownBlock ≠ some k → w'.heap[k]? = w.heap[k]?) → Below B w w' → (v'.ownBlock = v.ownBlock ∨ ∃ g, v'.ownBlock = some g ∧ w.heap.size ≤ g) → wpList P ops Q rest (a.put o.dst v') w') :
    wpList P ops Q (o :: rest) a (w.alloc (.cells #[u] e)) := by
  refine wpList_plain hgd fun K hK => ?_
  obtain ⟨v', w', hrun, h2, h3, h4, h5⟩ := run_append_lit (P := P) (ty := o.type) he hz1 hown h1 hlen hl2 hB
  unfold Oper.wp execOp
  simp only [ho, resolve, invoke, builtin, Sem.run_bind, Sem.run_pure, Result.andThen_ok, List.map_toArray, List.map_cons, List.map_nil, hs, hx, hrun]
  exact hK _ _ (h v' w' h2 h3 h4 h5)
/-- In a plan. -/
theorem plan_append_lit {ops : Array Oper} {o : Oper} {a : Act} {Q : Exit → Act → World → Prop} {S : World → Prop} {i : Nat} {r : Plan} (s x : Operand) (t : TypeId) (ho : ops.toList[i]? = some o) (hw : Region.wanted o (yielded ops a.tmps) = true) (hop : o.op = .call { callee := .builtin .append, args := #[s, x], argTypes := #[t, t] })
    (u z : Value) (bytes : Nat) (he : elemB P t e z bytes) (hz1 : z.cells.size = 1) (hs : a.eval s = v) (hown : OwnV w B e v xs) (hx : a.eval x = .slice (some ⟨w.heap.size, 0, none⟩) 1 1) (h1 : u.oneCell' = true) (hlen : (xs.length + 1) * bytes ≤ 140737488355328) (hl2 : xs.length < 140737488355328) (hB : B ≤ w.heap.size)
    (h : ∀ v' w', OwnV w' B e v' (xs ++ [u]) → (∀ k, k < w.heap.size → v.ownBlock ≠ some k → w'.heap[k]? = w.heap[k]?) → Below B w w' → (v'.ownBlock = v.ownBlock ∨ ∃ g, v'.ownBlock = some g ∧ w.heap.size ≤ g) → (∀ g i u, v.ownBlock = some g → xs[i]? = some u → w'.cell? ⟨g, i, none⟩ = some u) → S w' ∧ wpPlan P ops Q S r (a.put o.dst v') w') :
    wpPlan P ops Q S (.sole i r) a (w.alloc (.cells #[u] e)) := by
  refine wpOp_at ho hw ?_
  obtain ⟨v', w', hrun, h2, h3, h4, h5⟩ := run_append_lit (P := P) (ty := o.type) he hz1 hown h1 hlen hl2 hB
  unfold Oper.wp execOp
  simp only [hop, resolve, invoke, builtin, Sem.run_bind, Sem.run_pure, Result.andThen_ok, List.map_toArray, List.map_cons, List.map_nil, hs, hx, hrun]
  exact h v' w' h2 h3 h4 h5 (append_lit_stays he hown h1 hlen hl2 hrun h2)
end
end Mem
end Go.Proofs.Ytfbhbdllbapnpaa
namespace Go.Proofs.Ytfbhbdllbapnpaa
namespace Mem
open Go.RowKit
section
variable {P : Program} {ops : Array Oper} {K : World → Prop} {Q : Act → Prop} {a : Act} {op : Oper}
theorem wpList_store_one {rest : List Oper} {Q : Exit → Act → World → Prop} {w : World} (hgd : op.guard = none) (ty : TypeId) (x y : Operand) (ho : op.op = .store ty x y) (hdst : op.dst = none)
    (b i : Nat) (v : Value) (hx : a.eval x = .pointer (some ⟨b, i, none⟩)) (hy : a.eval y = v) (h1 : v.oneCell' = true) (hs : (P.info? ty).map (·.size) = some 1)
    (C : Array Value) (t : TypeId) (hC : At w b C t) (hi : i < C.size)
    (h : ∀ w', At w' b (C.setIfInBounds i v) t → (∀ k, k ≠ b → w'.heap[k]? = w.heap[k]?) → (∀ B a, Below B a w → B ≤ b → Below B a w') → wpList P ops Q rest a w') : wpList P ops Q (op :: rest) a w := by
  refine wpList_plain hgd fun K hK => ?_
  have hc : w.cell? ⟨b, i, none⟩ = some C[i] := by rw [hC.cell]; simp [hi]
  have hf : w.frozen? ⟨b, i, none⟩ = false := hC.free i
  have hcs : v.cells = #[v] := by cases v <;> first | rfl | simp [Value.oneCell'] at h1
  cases hq : P.info? ty with
  | none => simp [hq] at hs
  | some q =>
    have hs1 : q.size = 1 := by simpa [hq] using hs
    have hst := run_store P w ⟨b, i, none⟩ v .plain h1
    rw [hc] at hst
    simp only [hf] at hst
    have hrun : (Instr.storeAt ty (.pointer (some ⟨b, i, none⟩)) v).run P w = .ok () (w.setCell ⟨b, i, none⟩ v) := by
      have e0 : (⟨b, i, none⟩ : Addr).add 0 = ⟨b, i, none⟩ := by rw [Addr.add_mid]; rfl
      simp [Instr.storeAt, Instr.sureAddr, storeVar, sizeOf, typeInfo, hq, hs1, hcs, storeCells, Sem.run_bind, e0, hst, Result.andThen]
    have hput : a.put op.dst undef = a := by rw [hdst]; rfl
    unfold Oper.wp execOp
    simp only [ho, hx, hy, Sem.run_bind, hrun, Result.andThen_ok, Sem.run_pure]
    show K (a.put op.dst undef) _
    rw [hput]
    exact hK _ _ (h _ (hC.set i v) (fun k hk => heap_setCell_other w _ k v hk) (fun B a hb hB => hb.setCell hB v))
end
section
variable {P : Program} {ops : Array Oper} {Q : Exit → Act → World → Prop} {S : World → Prop}
/-- The address of a slice's element of one cell. -/
theorem plan_index {w : World} {a : Act} {o : Oper} {i : Nat} {r : Plan} (t e : TypeId) (x ix : Operand) (g off n c : Nat) (k : Nat) (ho : ops.toList[i]? = some o) (hw : Region.wanted o (yielded ops a.tmps) = true) (hop : o.op = .indexAddr t x ix)
    (hx : a.eval x = .slice (some ⟨g, off, none⟩) n c) (hi : a.eval ix = .int .i64 (k : Int)) (hk : k < n) (hu : P.underlying t = some (.slice e)) (hs : (P.info? e).map (·.size) = some 1)
    (h : wpPlan P ops Q S r (a.put o.dst (.pointer (some ⟨g, off + k, none⟩))) w) : wpPlan P ops Q S (.take i r) a w :=
  plan_take _ ho hw (fun w' _ => by
    cases hq : P.info? e with
    | none => simp [hq] at hs
    | some q =>
      have hs1 : q.size = 1 := by simpa [hq] using hs
      simp [execOp, hop, hx, hi, Instr.indexAt, asIntOf, Sem.run_bind, run_underlying hu, sizeOf, typeInfo, hq, hs1, hk, Addr.add]) h
/-- The load of one cell. -/
theorem plan_cell {w : World} {a : Act} {o : Oper} {i : Nat} {r : Plan} (t : TypeId) (x : Operand) (p : Addr) (v : Value) (d : TypeDesc) (ho : ops.toList[i]? = some o) (hw : Region.wanted o (yielded ops a.tmps) = true) (hop : o.op = .load t x)
    (hx : a.eval x = .pointer (some p)) (hc : ∀ w', S w' → w'.cell? p = some v) (hu : P.underlying t = some d) (hd : d.isRow = false)
    (h : wpPlan P ops Q S r (a.put o.dst v) w) : wpPlan P ops Q S (.take i r) a w :=
  plan_take _ ho hw (fun w' hw' => by
    have hagg : (isAgg t).run P w' = .ok false w' := by
      unfold isAgg
      rw [Sem.run_bind, run_underlying hu w']
      cases d <;> simp_all
    simp [execOp, hop, hx, Instr.loadAt, Instr.sureAddr, loadVar, Sem.run_bind, hagg, hc w' hw']) h
end
section
variable {P : Program} {ops : Array Oper} {Q : Exit → Act → World → Prop} {S : World → Prop} {w : World} {a : Act} {o : Oper} {i : Nat} {r : Plan}
/-- The address of an array's element, of so many cells. -/
theorem plan_index_arr (t e : TypeId) (n : Nat) (x ix : Operand) (g off z : Nat) (k : Nat) (ho : ops.toList[i]? = some o) (hw : Region.wanted o (yielded ops a.tmps) = true) (hop : o.op = .indexAddr t x ix)
    (hx : a.eval x = .pointer (some ⟨g, off, none⟩)) (hi : a.eval ix = .int .i64 (k : Int)) (hk : k < n) (hu : P.underlying t = some (.array n e)) (hs : (P.info? e).map (·.size) = some z) (_hz : 0 < z)
    (h : wpPlan P ops Q S r (a.put o.dst (.pointer (some ⟨g, off + k * z, none⟩))) w) : wpPlan P ops Q S (.take i r) a w :=
  plan_take _ ho hw (fun w' _ => by
    cases hq : P.info? e with
    | none => simp [hq] at hs
    | some q =>
      have hs1 : q.size = z := by simpa [hq] using hs
      simp [execOp, hop, hx, hi, Instr.indexAt, asIntOf, Instr.sureAddr, Sem.run_bind, run_underlying hu, sizeOf, typeInfo, hq, hs1, hk, Addr.add_mid]) h
/-- .. of one cell, in an array that fills its block. -/
theorem plan_index_arr1 (t e : TypeId) (n : Nat) (x ix : Operand) (g : Nat) (k : Nat) (ho : ops.toList[i]? = some o) (hw : Region.wanted o (yielded ops a.tmps) = true) (hop : o.op = .indexAddr t x ix)
    (hx : a.eval x = .pointer (some ⟨g, 0, none⟩)) (hi : a.eval ix = .int .i64 (k : Int)) (hk : k < n) (hu : P.underlying t = some (.array n e)) (hs : (P.info? e).map (·.size) = some 1)
    (h : wpPlan P ops Q S r (a.put o.dst (.pointer (some ⟨g, k, none⟩))) w) : wpPlan P ops Q S (.take i r) a w :=
  plan_index_arr t e n x ix g 0 1 k ho hw hop hx hi hk hu hs (by decide) (by rw [show 0 + k * 1 = k by omega]; exact h)
/-- The address of a struct's field. -/
theorem plan_field (t : TypeId) (x : Operand) (f : Nat) (g off : Nat) (p : Addr) (ho : ops.toList[i]? = some o) (hw : Region.wanted o (yielded ops a.tmps) = true) (hop : o.op = .fieldAddr t x f)
    (hx : a.eval x = .pointer (some ⟨g, off, none⟩)) (hr : ∀ w', (Instr.fieldAt t (.pointer (some ⟨g, off, none⟩)) f).run P w' = .ok (.pointer (some p)) w')
    (h : wpPlan P ops Q S r (a.put o.dst (.pointer (some p))) w) : wpPlan P ops Q S (.take i r) a w :=
  plan_take _ ho hw (fun w' _ => by
    have := hr w'
    unfold execOp
    simp only [hop, hx, Sem.run_bind, this, Result.andThen_ok, Sem.run_pure]) h
/-- A load of part of a row that all of the class have. -/
theorem plan_row_at (ty : TypeId) (x : Operand) (b off n : Nat) (d : TypeDesc) (C R : Array Value) (t : TypeId) (ho : ops.toList[i]? = some o) (hw : Region.wanted o (yielded ops a.tmps) = true) (hop : o.op = .load ty x) (hx : a.eval x = .pointer (some ⟨b, off, none⟩))
    (hC : ∀ w', S w' → At w' b C t) (hu : P.underlying ty = some d) (hd : d.isRow = true) (hi : (P.info? ty).map (·.size) = some n) (hn : off + n ≤ C.size) (hR : C.extract off (off + n) = R) (h : wpPlan P ops Q S r (a.put o.dst (.agg R)) w) :
    wpPlan P ops Q S (.take i r) a w :=
  plan_take _ ho hw (fun w' hw' => by
    have hr := run_loadAt_mid (P := P) w' b off ty (C.extract off (off + n)).toList d ((hC w' hw').range off n) hu hd (by rw [hi]; simp; omega)
    unfold execOp
    simp only [hop, hx, Sem.run_bind, hr, Result.andThen_ok, Sem.run_pure]
    simp [hR]) h
/-- A store of one cell over a block known whole that the class does not speak of. -/
theorem plan_store_one (ty : TypeId) (x y : Operand) (b k : Nat) (v : Value) (C : Array Value) (t : TypeId) (ho : ops.toList[i]? = some o) (hw : Region.wanted o (yielded ops a.tmps) = true) (hop : o.op = .store ty x y) (hdst : o.dst = none)
    (hx : a.eval x = .pointer (some ⟨b, k, none⟩)) (hy : a.eval y = v) (h1 : v.oneCell' = true) (hs : (P.info? ty).map (·.size) = some 1) (hC : At w b C t) (hk : k < C.size) (hS : S (w.setCell ⟨b, k, none⟩ v))
    (h : wpPlan P ops Q S r a (w.setCell ⟨b, k, none⟩ v)) : wpPlan P ops Q S (.sole i r) a w := by
  refine wpOp_at ho hw ?_
  have hput : a.put o.dst undef = a := by rw [hdst]; rfl
  have hc : w.cell? ⟨b, k, none⟩ = some C[k] := by rw [hC.cell]; simp [hk]
  have hf : w.frozen? ⟨b, k, none⟩ = false := hC.free k
  have hcs : v.cells = #[v] := by cases v <;> first | rfl | simp [Value.oneCell'] at h1
  cases hq : P.info? ty with
  | none => simp [hq] at hs
  | some q =>
    have hs1 : q.size = 1 := by simpa [hq] using hs
    have hst := run_store P w ⟨b, k, none⟩ v .plain h1
    rw [hc] at hst
    simp only [hf] at hst
    have hrun : (Instr.storeAt ty (.pointer (some ⟨b, k, none⟩)) v).run P w = .ok () (w.setCell ⟨b, k, none⟩ v) := by
      have e0 : (⟨b, k, none⟩ : Addr).add 0 = ⟨b, k, none⟩ := by rw [Addr.add_mid]; rfl
      simp [Instr.storeAt, Instr.sureAddr, storeVar, sizeOf, typeInfo, hq, hs1, hcs, storeCells, Sem.run_bind, e0, hst, Result.andThen]
    unfold Oper.wp execOp
    simp only [hop, hx, hy, Sem.run_bind, hrun, Result.andThen_ok, Sem.run_pure]
    show S _ ∧ wpPlan P ops Q S r (a.put o.dst undef) _
    rw [hput]
    exact ⟨hS, h⟩
end
/-- A value that is built, in a plain region. -/
theorem wpList_build {P : Program} {ops : Array Oper} {rest : List Oper} {o : Oper} {a : Act} {w : World} {Q : Exit → Act → World → Prop} (hw : Region.wanted o (yielded ops a.tmps) = true) (ty : TypeId) (parts : Array (Nat × Operand)) (ps : Array (Nat × Value)) (v : Value)
    (hop : o.op = .build ty parts) (hps : (parts.map fun (i, x) => (i, a.eval x)) = ps) (hv : ∀ w', (Instr.build ty ps).run P w' = .ok v w') (h : wpList P ops Q rest (a.put o.dst v) w) : wpList P ops Q (o :: rest) a w := by
  unfold wpList
  rw [if_pos hw]
  left
  unfold Oper.wp
  have : (execOp a.eval o).run P w = .ok (.value v) w := by
    have := hv w
    simp only [execOp, hop, hps]
    rw [Sem.run_bind, this]; rfl
  rw [this]
  exact h
end Mem
end Go.Proofs.Ytfbhbdllbapnpaa
namespace Go.Proofs.Ytfbhbdllbapnpaa
namespace Sha
open Go.RowKit Mem
theorem at_keep {w w' : World} {b c : Nat} {C : Array Value} {t : TypeId} (h : At w c C t) (o : ∀ k, k ≠ b → w'.heap[k]? = w.heap[k]?) (hne : c ≠ b) : At w' c C t := by
  unfold At at *; rw [o c hne]; exact h
theorem At.app {w w' : World} {b : Nat} {C : Array Value} {t : TypeId} {v : Value} (h : At w b C t) (hk : ∀ k, k < w.heap.size → v.ownBlock ≠ some k → w'.heap[k]? = w.heap[k]?) (hne : v.ownBlock ≠ some b) : At w' b C t := by
  have hl := h.lt
  unfold At at *
  rw [hk b hl hne]; exact h
theorem But.over {b c : Nat} {w w' w2 : World} (h : But b w w') (k : But c w' w2) (hc : w.heap.size ≤ c) : But b w w2 :=
  ⟨Nat.le_trans h.size k.size, fun j hj hne => (k.block j (Nat.lt_of_lt_of_le hj h.size) (by omega)).trans (h.block j hj hne)⟩
theorem But.same {b : Nat} {w w' w2 : World} (h : But b w w') (k : But b w' w2) : But b w w2 :=
  ⟨Nat.le_trans h.size k.size, fun j hj hne => (k.block j (Nat.lt_of_lt_of_le hj h.size) hne).trans (h.block j hj hne)⟩
end Sha
end Go.Proofs.Ytfbhbdllbapnpaa
namespace Go.Proofs.Ytfbhbdllbapnpaa
namespace Sha
open Go.RowKit Mem
/-- A slice of bytes that reads as l, all in blocks below the world's size. -/
def Sl (w : World) (v : Value) (l : List (BitVec 8)) : Prop :=
  ∃ a cap, v = .slice a l.length cap ∧ l.length ≤ cap ∧ (l ≠ [] → ∃ bb oo, a = some ⟨bb, oo, none⟩ ∧ bb < w.heap.size ∧ ∀ i, i < l.length → w.cell? ⟨bb, oo + i, none⟩ = some (.int .u8 ((l.getD i 0).toNat : Int)))
theorem infoB : (Try.prog.info? 5).map (·.size) = some 1 := by kernel_rfl
theorem sl_drop {w : World} {bb oo m cap k : Nat} {a1 : Option Addr} {rest : List (BitVec 8)} (hm : m = rest.length) (hk : k ≤ m) (hcap : m ≤ cap) (hbb : bb < w.heap.size)
    (hc : ∀ i, i < rest.length → w.cell? ⟨bb, oo + i, none⟩ = some (.int .u8 ((rest.getD i 0).toNat : Int)))
    (ha : ∀ bb' oo', some (⟨bb, oo, none⟩ : Addr) = some ⟨bb', oo', none⟩ → k < cap → a1 = some ⟨bb', oo' + k, none⟩) : Sl w (.slice a1 (m - k) (cap - k)) (rest.drop k) := by
  refine ⟨a1, cap - k, by rw [List.length_drop, hm], by rw [List.length_drop]; omega, fun hne => ?_⟩
  have hlt : k < m := by
    rcases Nat.lt_or_ge k m with h | h
    · exact h
    · exact absurd (List.drop_of_length_le (by omega)) hne
  refine ⟨bb, oo + k, ha bb oo rfl (by omega), hbb, fun i hi => ?_⟩
  rw [List.length_drop] at hi
  have := hc (k + i) (by omega)
  rw [← Nat.add_assoc] at this
  rw [this]
  simp [List.getD_eq_getElem?_getD, List.getElem?_drop]
theorem Sl.below {w wr : World} {v : Value} {l : List (BitVec 8)} (h : Sl w v l) (hb : Below w.heap.size w wr) : Sl wr v l := by
  obtain ⟨a, cap, e, hc, hr⟩ := h
  refine ⟨a, cap, e, hc, fun hne => ?_⟩
  obtain ⟨bb, oo, ea, hlt, hcell⟩ := hr hne
  exact ⟨bb, oo, ea, Nat.lt_of_lt_of_le hlt hb.size, fun i hi => by rw [hb.cell (p := ⟨bb, oo + i, none⟩) hlt]; exact hcell i hi⟩
/-- v is the call's own slice of the bytes l, in a block from B on. -/
def OwnB (w : World) (B : Nat) (v : Value) (l : List (BitVec 8)) : Prop := w.ownsRow B 5 1 v l.length (u8s l)
theorem infoU8 : (Try.prog.info? 5).map (fun i => (i.zero, i.size, i.bytes)) = some (some (.int .u8 0), 1, 1) := by kernel_rfl
theorem OwnB.nil (w : World) (B : Nat) : OwnB w B (.slice none 0 0) [] := World.ownsRow_nil w B _ 1
theorem OwnB.open {w : World} {B : Nat} {v : Value} {l : List (BitVec 8)} (h : OwnB w B v l) : ∃ a cap, v = .slice a l.length cap ∧ l.length ≤ cap ∧
    (l ≠ [] → ∃ g, a = some ⟨g, 0, none⟩ ∧ B ≤ g ∧ g < w.heap.size ∧ ∀ i, i < l.length → w.cell? ⟨g, i, none⟩ = some (.int .u8 ((l.getD i 0).toNat : Int))) := by
  obtain ⟨_, h | ⟨g, cap, cur, rfl, hg, hh, hn, hc, hs, ht⟩⟩ := h
  · obtain ⟨rfl, h0⟩ := h
    exact ⟨none, 0, by rw [h0], by omega, fun hne => absurd (List.eq_nil_of_length_eq_zero h0) hne⟩
  · refine ⟨_, cap, rfl, hn, fun _ => ⟨g, rfl, hg, (Array.getElem?_eq_some_iff.1 hh).1, fun i hi => ?_⟩⟩
    rw [cell_of_row w g i cur _ (0, 0) hh]
    have h1 : (cur.toList.take (l.length * 1))[i]? = (u8s l)[i]? := by rw [ht]
    rw [List.getElem?_take, if_pos (by omega)] at h1
    rw [← Array.getElem?_toList, h1, u8s_get l i hi]
theorem OwnB.sl {w : World} {B : Nat} {v : Value} {l : List (BitVec 8)} (h : OwnB w B v l) : Sl w v l := by
  obtain ⟨a, cap, rfl, hc, hr⟩ := h.open
  refine ⟨a, cap, rfl, hc, fun hne => ?_⟩
  obtain ⟨g, ea, _, hlt, hcell⟩ := hr hne
  exact ⟨g, 0, ea, hlt, fun i hi => by rw [Nat.zero_add]; exact hcell i hi⟩
theorem OwnB.keep {w w' : World} {B : Nat} {v : Value} {l : List (BitVec 8)} (h : OwnB w B v l) (hk : ∀ g, v.ownBlock = some g → w'.heap[g]? = w.heap[g]?) : OwnB w' B v l := by
  refine ⟨h.1, ?_⟩
  rcases h.2 with hn | ⟨g, cap, cur, rfl, hg, hh, hr⟩
  · exact .inl hn
  · exact .inr ⟨g, cap, cur, rfl, hg, by rw [hk g rfl]; exact hh, hr⟩
theorem OwnB.lt {w : World} {B : Nat} {v : Value} {l : List (BitVec 8)} (h : OwnB w B v l) : ∀ k, v.ownBlock = some k → B ≤ k ∧ k < w.heap.size := World.ownsRow.lt h
theorem OwnB.below {w w' : World} {B : Nat} {v : Value} {l : List (BitVec 8)} (h : OwnB w B v l) (hb : Below w.heap.size w w') : OwnB w' B v l :=
  h.keep fun g hg => hb.block g (h.lt g hg).2
/-- A block of another type is another block. -/
theorem OwnB.ne_at {w : World} {B b : Nat} {v : Value} {l : List (BitVec 8)} {C : Array Value} {t : TypeId} (h : OwnB w B v l) (hC : At w b C t) (ht : t ≠ 5) : v.ownBlock ≠ some b := by
  rcases h.2 with ⟨rfl, _⟩ | ⟨g, cap, cur, rfl, hg, hh, hr⟩
  · simp [Value.ownBlock]
  · intro e
    have : g = b := by simpa [Value.ownBlock] using e
    subst this
    unfold At at hC
    rw [hh] at hC
    injection hC with hC
    injection hC with _ h2
    exact ht h2.symm
theorem run_append_nil_src {w : World} {B : Nat} {v : Value} {l : List (BitVec 8)} (h : OwnB w B v l) (ty : TypeId) (c : Nat) : (Builtin.append_ #[24, 24] ty #[v, .slice none 0 c]).run Try.prog w = .ok v w := by
  obtain ⟨i0, hi, _, _, _⟩ := info_parts infoU8
  rcases h.2 with ⟨rfl, _⟩ | ⟨g, cap, cur, rfl, _, _, hn, _⟩
  · simp [Builtin.append_, run_underlying Try.underlying24, sizeOf, typeInfo, hi, Builtin.lenOf, Builtin.firstCells]
  · simp [Builtin.append_, run_underlying Try.underlying24, sizeOf, typeInfo, hi, Builtin.lenOf, Builtin.firstCells, hn, storeCells]
set_option maxRecDepth 10000 in
theorem run_append_bytes {w : World} {B : Nat} {v vx : Value} {l m : List (BitVec 8)} (hown : OwnB w B v l) (hsl : Sl w vx m) (hlen : l.length + m.length ≤ 140737488355328) (hB : B ≤ w.heap.size) (ty : TypeId) :
    ∃ v' w', (Builtin.append_ #[24, 24] ty #[v, vx]).run Try.prog w = .ok v' w' ∧ OwnB w' B v' (l ++ m) ∧ w.grownBy w' v.ownBlock := by
  obtain ⟨a0, cap, rfl, hc, hr⟩ := hsl
  obtain ⟨i0, hi, hz0, hz1, hz2⟩ := info_parts infoU8
  have hml : maxLen = 281474976710656 ∨ 140737488355328 ≤ maxLen := .inr (by simp [maxLen])
  cases a0 with
  | none =>
    have hm : m = [] := by
      rcases m with _ | ⟨x, m⟩
      · rfl
      · obtain ⟨_, _, h, _⟩ := hr (by simp)
        cases h
    subst hm
    exact ⟨v, w, run_append_nil_src hown ty cap, by simpa using hown, World.grownBy.refl w _⟩
  | some ad =>
    have hcells : ∀ j u, (u8s m)[j]? = some u → w.cell? (ad.add j) = some u := by
      intro j u hu
      have hj : j < m.length := by
        have := (List.getElem?_eq_some_iff.1 hu).1
        rwa [u8s_length] at this
      obtain ⟨bb, oo, e, _, hcell⟩ := hr (by intro e; rw [e] at hj; simp at hj)
      injection e with e
      subst e
      rw [Addr.add_mid, hcell j hj, ← hu, u8s_get m j hj]
    have h1 : ∀ u ∈ u8s m, u.oneCell' = true := by
      intro u hu
      obtain ⟨x, _, rfl⟩ := List.mem_map.1 hu
      rfl
    obtain ⟨v', w', hrun, h2, h3, _, _⟩ := run_append_own_at (P := Try.prog) w B 24 ty 5 i0 (.int .u8 0) 1 1 Try.underlying24 hi hz0 hz1 hz2 rfl (by decide) v l.length (u8s l) hown ad m.length cap (u8s m) (by rw [u8s_length, Nat.mul_one]) hcells h1 (by rcases hml with h | h <;> omega) (by omega) hB
    refine ⟨v', w', hrun, ?_, h3⟩
    unfold OwnB
    rw [List.length_append, show u8s (l ++ m) = u8s l ++ u8s m by simp [u8s]]
    exact h2
theorem wpList_append_bytes {w : World} {ops : Array Oper} {rest : List Oper} {o : Oper} {a : Act} {Q : Exit → Act → World → Prop} (hgd : o.guard = none) (s x : Operand)
    (ho : o.op = .call { callee := .builtin .append, args := #[s, x], argTypes := #[24, 24] }) (B : Nat) (v vx : Value) (l m : List (BitVec 8))
    (hs : a.eval s = v) (hown : OwnB w B v l) (hx : a.eval x = vx) (hsl : Sl w vx m) (hlen : l.length + m.length ≤ 140737488355328) (hB : B ≤ w.heap.size)
    (h : ∀ v' w', OwnB w' B v' (l ++ m) → (∀ k, k < w.heap.size → v.ownBlock ≠ some k → w'.heap[k]? = w.heap[k]?) → Below B w w' → wpList Try.prog ops Q rest (a.put o.dst v') w') : wpList Try.prog ops Q (o :: rest) a w := by
  refine wpList_plain hgd fun K hK => ?_
  obtain ⟨v', w', hrun, h2, h3⟩ := run_append_bytes hown hsl hlen hB o.type
  unfold Oper.wp execOp
  simp only [ho, resolve, invoke, builtin, Sem.run_bind, Sem.run_pure, Result.andThen_ok, List.map_toArray, List.map_cons, List.map_nil, hs, hx, hrun]
  exact hK _ _ (h v' w' h2 (fun k hk hne => h3.block k hk (fun e => hne e.symm)) ((Below.refl _ _).grown h3 hB (fun g hg => (hown.lt g hg).1)))
/-- copy of a slice of bytes, nil or not, into a part of a block known whole. -/
theorem wpList_copy_sl {w : World} {ops : Array Oper} {rest : List Oper} {op : Oper} {a : Act} {Q : Exit → Act → World → Prop} (hgd : op.guard = none) (x y : Operand)
    (ho : op.op = .call { callee := .builtin .copy, args := #[x, y], argTypes := #[24, 24] }) (b o dLen dCap : Nat) (vy : Value) (l : List (BitVec 8)) (hx : a.eval x = .slice (some ⟨b, o, none⟩) dLen dCap) (hy : a.eval y = vy) (hl : Sl w vy l)
    (k : Nat) (hk : k = Nat.min l.length dLen) (C : Array Value) (t : TypeId) (hC : At w b C t) (hfit : o + k ≤ C.size) (E : Array Value) (hE : Mem.splice C o (u8s (l.take k)) = E)
    (h : ∀ w', At w' b E t → w'.heap.size = w.heap.size → (∀ k, k ≠ b → w'.heap[k]? = w.heap[k]?) → (∀ B a, Below B a w → B ≤ b → Below B a w') → wpList Try.prog ops Q rest (a.put op.dst (.int .i64 (k : Int))) w') : wpList Try.prog ops Q (op :: rest) a w := by
  obtain ⟨a0, cap, rfl, _, hr⟩ := hl
  have hkl : k ≤ l.length := by rw [hk]; exact Nat.min_le_left _ _
  have hlen : (u8s (l.take k)).length = k := by rw [u8s_length, List.length_take]; omega
  by_cases h0 : k = 0
  · subst h0
    refine wpList_copy_nothing hgd x y _ _ ho 5 Try.underlying24 infoB (some ⟨b, o, none⟩) a0 dLen dCap l.length cap hx hy hk.symm ?_
    have hEC : E = C := by rw [← hE]; simp [Mem.splice, u8s]
    rw [hEC] at h
    exact h w hC rfl (fun _ _ => rfl) (fun _ _ hb _ => hb)
  · obtain ⟨bb, oo, rfl, _, hc⟩ := hr (by intro e; rw [e] at hkl; simp at hkl; omega)
    refine wpList_copy_at hgd x y _ _ ho 5 Try.underlying24 infoB b o dLen dCap ⟨bb, oo, none⟩ l.length cap hx hy (u8s (l.take k)) (by rw [hlen]; exact hk) (fun j v hj => ?_) (fun v hv => ?_) C t hC (by rw [hlen]; exact hfit) E hE k hlen h
    · have hjk : j < k := by
        have := (List.getElem?_eq_some_iff.1 hj).1
        rwa [hlen] at this
      rw [Addr.add_mid, hc j (by omega), ← hj, u8s_get _ _ (by rw [List.length_take]; omega)]
      simp [List.getD_eq_getElem?_getD, hjk]
    · obtain ⟨_, _, rfl⟩ := List.mem_map.1 hv
      rfl
/-- Two digests of the same bytes are the same. -/
theorem eql_bytes {P : Program} (w : World) (t e : TypeId) (n : Nat) (x y : Operand) (ht : P.underlying t = some (.array n e)) (he : P.underlying e = some (.int .u8)) (hsz : (P.info? e).map (·.size) = some 1) (hg : P.eqGuardType P.depth t = false) (l m : List (BitVec 8)) (hl : l.length = n) (hm : m.length = n) :
    (do eqGuard .eql t x y (.agg (u8s l).toArray) (.agg (u8s m).toArray); binOp .eql t (.agg (u8s l).toArray) (.agg (u8s m).toArray) : Sem Value).run P w = .ok (.bool (l == m)) w := by
  have e1 : ∀ k : List (BitVec 8), u8s k = (k.map UInt8.ofBitVec).map Extern.Stop.cell := fun k => by simp [u8s, Extern.Stop.cell, UInt8.toNat]
  have hs1 : ∀ w, (sizeOf e).run P w = .ok 1 w := fun w => by
    cases hq : P.info? e with
    | none => simp [hq] at hsz
    | some q => simp [sizeOf, typeInfo, hq, show q.size = 1 by simpa [hq] using hsz]
  have e2 : ((l.map UInt8.ofBitVec) == (m.map UInt8.ofBitVec)) = (l == m) := by
    rw [Bool.eq_iff_iff, beq_iff_eq, beq_iff_eq]
    exact (List.map_inj_right (fun a b h => by injection h)).trans Iff.rfl
  rw [Sem.run_bind, run_eqGuard_agg w .eql t x y _ _ hg, Result.andThen_ok, e1, e1, run_eql_bytes w t e n ht he hs1 _ _ (by simpa using hl) (by simpa using hm), e2]
theorem ownV_B {w : World} {B : Nat} {v : Value} {l : List (BitVec 8)} (h : OwnV w B 5 v (u8s l)) : OwnB w B v l := by
  unfold OwnV at h
  rw [u8s_length] at h
  exact h
theorem ownB_V {w : World} {B : Nat} {v : Value} {l : List (BitVec 8)} (h : OwnB w B v l) : OwnV w B 5 v (u8s l) := by
  unfold OwnV
  rw [u8s_length]
  exact h
theorem elemB8 : elemB Try.prog 24 5 (.int .u8 0) 1 := ⟨Try.underlying24, infoU8⟩
def PadEnd (w : World) (T : List (BitVec 8)) (e : Ending) (w' : World) : Prop := ∃ v, e = .returned v ∧ OwnB w' w.heap.size v T ∧ Below w.heap.size w w'
theorem sl_rd {w : World} {v : Value} {l : List (BitVec 8)} (h : Sl w v l) : Rd w v (u8s l) := by
  obtain ⟨a, c, rfl, _, hr⟩ := h
  refine ⟨a, c, by rw [u8s_length], fun hne => ?_⟩
  obtain ⟨b, o, rfl, _, hc⟩ := hr (by intro e; rw [e] at hne; exact hne rfl)
  refine ⟨_, rfl, fun i u hu => ?_⟩
  have hi : i < l.length := by
    have := (List.getElem?_eq_some_iff.1 hu).1
    rwa [u8s_length] at this
  rw [Addr.add_mid, hc i hi, ← u8s_get l i hi, hu]
theorem at_sl {w : World} {b n : Nat} {l : List (BitVec 8)} {t : TypeId} (h : At w b (u8s l).toArray t) (hn : l.length = n) : Sl w (.slice (some ⟨b, 0, none⟩) n n) l := by
  subst hn
  refine ⟨_, _, rfl, Nat.le_refl _, fun _ => ⟨b, 0, rfl, h.lt, fun i hi => ?_⟩⟩
  rw [Nat.zero_add, h.cell, List.getElem?_toArray, u8s_get l i hi]
theorem at_sl_take {w : World} {b n k : Nat} {l : List (BitVec 8)} {t : TypeId} (h : At w b (u8s l).toArray t) (hk : l.length = k) (hn : n ≤ k) : Sl w (.slice (some ⟨b, 0, none⟩) n k) (l.take n) := by
  have hl : (l.take n).length = n := by rw [List.length_take]; omega
  refine ⟨_, k, by rw [hl], by rw [hl]; exact hn, fun _ => ⟨b, 0, rfl, h.lt, fun i hi => ?_⟩⟩
  rw [hl] at hi
  rw [Nat.zero_add, h.cell, List.getElem?_toArray, u8s_get l i (by omega)]
  simp [List.getD_eq_getElem?_getD, hi]
theorem sl_at {w : World} {a : Option Addr} {cap : Nat} {l : List (BitVec 8)} (h : Sl w (.slice a l.length cap) l) {i : Nat} (hi : i < l.length) :
    ∃ b o, a = some ⟨b, o, none⟩ ∧ w.cell? ⟨b, o + i, none⟩ = some (.int .u8 (B8 (l.getD i 0))) := by
  obtain ⟨a', cap', e, _, hr⟩ := h
  injection e with e1 _ _
  obtain ⟨b, o, ea, _, hc⟩ := hr (by intro e; rw [e] at hi; simp at hi)
  exact ⟨b, o, by rw [e1]; exact ea, hc i hi⟩
/-- An own slice that fills its block. -/
theorem own_full {w : World} {B g n : Nat} {e : TypeId} {xs : List Value} (h : w.ownsRow B e 1 (.slice (some ⟨g, 0, none⟩) n n) n xs) : At w g xs.toArray e := by
  obtain ⟨hl, h | ⟨g', cap, cur, e1, _, hh, _, _, hc, ht⟩⟩ := h
  · cases h.1
  · injection e1 with e1 _ e2
    injection e1 with e1
    injection e1 with e1
    subst e1; subst e2
    have : cur = xs.toArray := by
      rw [← ht, List.take_of_length_le (by simp [hc])]
    rw [← this]; exact hh
theorem made_zeros (n : Nat) : (madeCells (Value.int .u8 0).cells (n * 1)).toList = u8s (List.replicate n 0) := by
  rw [madeCells, Nat.mul_one]
  apply List.ext_getElem
  · simp [u8s]
  · intro i h1 h2
    simp [u8s, Value.cells, Nat.mod_one]
end Sha
end Go.Proofs.Ytfbhbdllbapnpaa
namespace Go.Proofs.Ytfbhbdllbapnpaa
namespace Sha
/-- Turned right by r (up to 32), as a number. -/
def rM (x r : Nat) : Nat := x / 2 ^ r + x % 2 ^ r * 2 ^ (32 - r)
theorem rotl_nat (x : BitVec 32) (r : Nat) (h : r < 32) : (x.rotateLeft r).toNat = x.toNat * 2 ^ r % 2 ^ 32 + x.toNat / 2 ^ (32 - r) := by
  have hlt : x.toNat / 2 ^ (32 - r) < 2 ^ r := by
    have := x.isLt
    have e : 2 ^ 32 = 2 ^ (32 - r) * 2 ^ r := by rw [← Nat.pow_add]; congr 1; omega
    rw [e] at this
    exact Nat.div_lt_of_lt_mul this
  have e1 : x.toNat * 2 ^ r % 2 ^ 32 = 2 ^ r * (x.toNat % 2 ^ (32 - r)) := by
    have e : 2 ^ 32 = 2 ^ (32 - r) * 2 ^ r := by rw [← Nat.pow_add]; congr 1; omega
    rw [e, Nat.mul_mod_mul_right, Nat.mul_comm]
  rw [BitVec.toNat_rotateLeft, Nat.mod_eq_of_lt h, Nat.shiftRight_eq_div_pow, Nat.shiftLeft_eq, e1, ← Nat.two_pow_add_eq_or_of_lt hlt]
theorem rotl_zero (x : BitVec 32) : x.rotateLeft 0 = x := by
  apply BitVec.eq_of_toNat_eq
  rw [rotl_nat x 0 (by decide)]
  have := x.isLt
  omega
/-- One step of the turning. -/
theorem rotl_step (x : BitVec 32) (r : Nat) (h : r < 31) : (x.rotateLeft r).toNat * 2 % 2 ^ 32 + (x.rotateLeft r).toNat / 2147483648 = (x.rotateLeft (r + 1)).toNat := by
  rw [rotl_nat x r (by omega), rotl_nat x (r + 1) (by omega)]
  have hx := x.isLt
  have e2 : 32 - (r + 1) = 31 - r := by omega
  have e3 : 2 ^ (32 - r) = 2 * 2 ^ (31 - r) := by rw [← Nat.pow_succ']; congr 1; omega
  have e1 : 2 ^ 32 = 2 ^ r * (2 * 2 ^ (31 - r)) := by rw [← e3, ← Nat.pow_add]; congr 1; omega
  have em : x.toNat * 2 ^ r % 2 ^ 32 = 2 ^ r * (x.toNat % (2 * 2 ^ (31 - r))) := by rw [e1, Nat.mul_comm (x.toNat), Nat.mul_mod_mul_left]
  have em2 : x.toNat * 2 ^ (r + 1) % 2 ^ 32 = 2 * 2 ^ r * (x.toNat % 2 ^ (31 - r)) := by
    have e5 : 2 ^ 32 = 2 * 2 ^ r * 2 ^ (31 - r) := by rw [e1]; simp only [Nat.mul_assoc, Nat.mul_left_comm]
    rw [e5, Nat.pow_succ, Nat.mul_comm (x.toNat), Nat.mul_comm (2 ^ r) 2, Nat.mul_mod_mul_left]
  rw [em, em2, e2, e3]
  have hP : 0 < 2 ^ (31 - r) := Nat.two_pow_pos _
  have hR : 0 < 2 ^ r := Nat.two_pow_pos _
  have hRP : 2 ^ r * 2 ^ (31 - r) = 2147483648 := by rw [← Nat.pow_add, show r + (31 - r) = 31 by omega]
  generalize 2 ^ (31 - r) = P at *
  generalize 2 ^ r = R at *
  -- x = (2 h + l) P + m
  obtain ⟨m, hm⟩ : ∃ m, m = x.toNat % P := ⟨_, rfl⟩
  obtain ⟨q, hq⟩ : ∃ q, q = x.toNat / P := ⟨_, rfl⟩
  have hxq : x.toNat = P * q + m := by rw [hm, hq, Nat.div_add_mod]
  have hmP : m < P := by rw [hm]; exact Nat.mod_lt _ hP
  have d2 : x.toNat / (2 * P) = q / 2 := by rw [Nat.mul_comm, ← Nat.div_div_eq_div_mul, ← hq]
  have m2 : x.toNat % (2 * P) = q % 2 * P + m := by
    have h0 := Nat.div_add_mod x.toNat (2 * P)
    rw [d2] at h0
    have h1 : P * q = 2 * P * (q / 2) + P * (q % 2) := by
      have := Nat.div_add_mod q 2
      calc P * q = P * (2 * (q / 2) + q % 2) := by rw [this]
        _ = 2 * P * (q / 2) + P * (q % 2) := by rw [Nat.mul_add, ← Nat.mul_assoc, Nat.mul_comm P 2]
    have h2 : P * (q % 2) = q % 2 * P := Nat.mul_comm _ _
    omega
  rw [d2, m2, ← hq, ← hm]
  have hq2 : q / 2 < R := by
    have hq3 : q < 2 * R := by
      rw [hq]
      apply Nat.div_lt_of_lt_mul
      have : P * (2 * R) = 2 * (R * P) := by rw [Nat.mul_left_comm, Nat.mul_comm P R]
      rw [this, hRP]; omega
    omega
  have hRm : R * m < R * P := Nat.mul_lt_mul_of_pos_left hmP hR
  have e6 : R * (q % 2 * P + m) = q % 2 * 2147483648 + R * m := by rw [Nat.mul_add, Nat.mul_left_comm, hRP]
  have e7 : 2 * R * m = 2 * (R * m) := Nat.mul_assoc _ _ _
  rw [e6, e7]
  rw [hRP] at hRm
  have hl : R * m + q / 2 < 2147483648 := by
    -- the low bits of R * m are free
    have hm1 : m + 1 ≤ P := hmP
    have h1 : R * (m + 1) ≤ R * P := Nat.mul_le_mul_left _ hm1
    rw [hRP, Nat.mul_add, Nat.mul_one] at h1
    omega
  rcases Nat.mod_two_eq_zero_or_one q with h0 | h0 <;> rw [h0] <;> omega
theorem rotl_add (x : BitVec 32) (a : Nat) (ha : a < 32) : ∀ b, a + b < 32 → (x.rotateLeft a).rotateLeft b = x.rotateLeft (a + b)
  | 0, _ => rotl_zero _
  | b + 1, h => by
    apply BitVec.eq_of_toNat_eq
    rw [← rotl_step _ b (by omega), rotl_add x a ha b (by omega), ← Nat.add_assoc, ← rotl_step x (a + b) (by omega)]
/-- Turned by two that are 32 it is as it was. -/
theorem rotl_full (x : BitVec 32) : (x.rotateLeft 31).rotateLeft 1 = x := by
  apply BitVec.eq_of_toNat_eq
  rw [rotl_nat _ 1 (by decide), rotl_nat _ 31 (by decide)]
  have hx := x.isLt
  generalize x.toNat = y at *
  have e1 : y * 2 ^ 31 % 2 ^ 32 = 2147483648 * (y % 2) := by omega
  rw [e1]
  simp only [Nat.reducePow, Nat.reduceSub]
  rcases Nat.mod_two_eq_zero_or_one y with h0 | h0 <;> rw [h0] <;> omega
theorem rotl_pair (x : BitVec 32) (a b : Nat) (hb : 0 < b) (h : a + b = 32) : (x.rotateLeft a).rotateLeft b = x := by
  by_cases ha : a = 0
  · subst ha
    have e : b = 32 := by omega
    subst e
    rw [rotl_zero]
    have : x.rotateLeft 32 = x.rotateLeft 0 := by rw [BitVec.rotateLeft_def, BitVec.rotateLeft_def]
    rw [this, rotl_zero]
  · obtain ⟨c, rfl⟩ : ∃ c, b = c + 1 := ⟨b - 1, by omega⟩
    by_cases hc : c = 0
    · subst hc
      have e : a = 31 := by omega
      subst e
      exact rotl_full x
    · have e : (x.rotateLeft a).rotateLeft (c + 1) = ((x.rotateLeft a).rotateLeft c).rotateLeft 1 := (rotl_add (x.rotateLeft a) c (by omega) 1 (by omega)).symm
      rw [e, rotl_add x a (by omega) c (by omega), show a + c = 31 by omega]
      exact rotl_full x
/-- One bit, as the model reckons it. -/
theorem lf_val (x : BitVec 32) (r : Nat) (h : r < 31) : (V (x.rotateLeft r) * 2 + V (x.rotateLeft r) / 2147483648) % (4294967296 : Int) = V (x.rotateLeft (r + 1)) := by
  have e := rotl_step x r h
  have h1 := (x.rotateLeft (r + 1)).isLt
  unfold V
  omega
end Sha
end Go.Proofs.Ytfbhbdllbapnpaa
namespace Go.Proofs.Ytfbhbdllbapnpaa
namespace Sha
/-- Four words. -/
structure Q4 where
  a : BitVec 32
  b : BitVec 32
  c : BitVec 32
  d : BitVec 32
def Q4.list (q : Q4) : List (BitVec 32) := [q.a, q.b, q.c, q.d]
def q4 (l : List (BitVec 32)) : Q4 := ⟨l.getD 0 0, l.getD 1 0, l.getD 2 0, l.getD 3 0⟩
theorem q4_list (l : List (BitVec 32)) (h : l.length = 4) : (q4 l).list = l := by
  match l, h with
  | [_, _, _, _], _ => rfl
theorem list_q4 (q : Q4) : q4 q.list = q := rfl
/-- The quarter round. -/
def qa1 (q : Q4) : BitVec 32 := q.a + q.b
def qd1 (q : Q4) : BitVec 32 := (q.d ^^^ qa1 q).rotateLeft 16
def qc1 (q : Q4) : BitVec 32 := q.c + qd1 q
def qb1 (q : Q4) : BitVec 32 := (q.b ^^^ qc1 q).rotateLeft 12
def qa2 (q : Q4) : BitVec 32 := qa1 q + qb1 q
def qd2 (q : Q4) : BitVec 32 := (qd1 q ^^^ qa2 q).rotateLeft 8
def qc2 (q : Q4) : BitVec 32 := qc1 q + qd2 q
def qb2 (q : Q4) : BitVec 32 := (qb1 q ^^^ qc2 q).rotateLeft 7
def qr (q : Q4) : Q4 := ⟨qa2 q, qb2 q, qc2 q, qd2 q⟩
/-- The way back. -/
def kb1 (q : Q4) : BitVec 32 := q.b.rotateLeft 25 ^^^ q.c
def kc1 (q : Q4) : BitVec 32 := q.c - q.d
def kd1 (q : Q4) : BitVec 32 := q.d.rotateLeft 24 ^^^ q.a
def ka1 (q : Q4) : BitVec 32 := q.a - kb1 q
def kb0 (q : Q4) : BitVec 32 := (kb1 q).rotateLeft 20 ^^^ kc1 q
def kc0 (q : Q4) : BitVec 32 := kc1 q - kd1 q
def kd0 (q : Q4) : BitVec 32 := (kd1 q).rotateLeft 16 ^^^ ka1 q
def ka0 (q : Q4) : BitVec 32 := ka1 q - kb0 q
def qback (q : Q4) : Q4 := ⟨ka0 q, kb0 q, kc0 q, kd0 q⟩
theorem xor_back (x y : BitVec 32) : x ^^^ y ^^^ y = x := by rw [BitVec.xor_assoc, BitVec.xor_self, BitVec.xor_zero]
theorem sub_back (x y : BitVec 32) : x + y - y = x := BitVec.add_sub_cancel x y
/-- Each quarter round comes back. -/
theorem qback_qr (q : Q4) : qback (qr q) = q := by
  have e1 : kb1 (qr q) = qb1 q := by
    show (qb2 q).rotateLeft 25 ^^^ qc2 q = qb1 q
    rw [qb2, rotl_pair _ 7 25 (by decide) (by decide), xor_back]
  have e2 : kc1 (qr q) = qc1 q := sub_back _ _
  have e3 : kd1 (qr q) = qd1 q := by
    show (qd2 q).rotateLeft 24 ^^^ qa2 q = qd1 q
    rw [qd2, rotl_pair _ 8 24 (by decide) (by decide), xor_back]
  have e4 : ka1 (qr q) = qa1 q := by
    show qa2 q - kb1 (qr q) = qa1 q
    rw [e1]; exact sub_back _ _
  have e5 : kb0 (qr q) = q.b := by
    rw [kb0, e1, e2, qb1, rotl_pair _ 12 20 (by decide) (by decide), xor_back]
  have e6 : kc0 (qr q) = q.c := by rw [kc0, e2, e3]; exact sub_back _ _
  have e7 : kd0 (qr q) = q.d := by
    rw [kd0, e3, e4, qd1, rotl_pair _ 16 16 (by decide) (by decide), xor_back]
  have e8 : ka0 (qr q) = q.a := by rw [ka0, e4, e5]; exact sub_back _ _
  show (⟨ka0 (qr q), kb0 (qr q), kc0 (qr q), kd0 (qr q)⟩ : Q4) = q
  rw [e5, e6, e7, e8]
theorem qr_inj (x y : Q4) (h : qr x = qr y) : x = y := by rw [← qback_qr x, h, qback_qr]
/-- The quarter round of four places. -/
def qat (w : List (BitVec 32)) (i j k l : Nat) : List (BitVec 32) :=
  (((w.set i (qr ⟨w.getD i 0, w.getD j 0, w.getD k 0, w.getD l 0⟩).a).set j (qr ⟨w.getD i 0, w.getD j 0, w.getD k 0, w.getD l 0⟩).b).set k (qr ⟨w.getD i 0, w.getD j 0, w.getD k 0, w.getD l 0⟩).c).set l (qr ⟨w.getD i 0, w.getD j 0, w.getD k 0, w.getD l 0⟩).d
theorem qat_length (w : List (BitVec 32)) (i j k l : Nat) : (qat w i j k l).length = w.length := by simp [qat]
/-- The places of the eight quarter rounds. -/
def plc : List (List Nat) := [[0, 4, 8, 12], [1, 5, 9, 13], [2, 6, 10, 14], [3, 7, 11, 15], [0, 5, 10, 15], [1, 6, 11, 12], [2, 7, 8, 13], [3, 4, 9, 14]]
def qpl (w : List (BitVec 32)) (p : List Nat) : List (BitVec 32) := qat w (p.getD 0 0) (p.getD 1 0) (p.getD 2 0) (p.getD 3 0)
/-- The first m of the eight; n times all. -/
def some8 (w : List (BitVec 32)) (m : Nat) : List (BitVec 32) := (plc.take m).foldl qpl w
def all8 (w : List (BitVec 32)) : Nat → List (BitVec 32)
  | 0 => w
  | n + 1 => some8 (all8 w n) 8
theorem some8_next (w : List (BitVec 32)) (m : Nat) (h : m < 8) : some8 w (m + 1) = qpl (some8 w m) (plc.getD m []) := by
  have hm : m < plc.length := h
  unfold some8
  rw [List.take_succ_eq_append_getElem hm, List.foldl_append]
  simp [hm]
theorem some8_length (w : List (BitVec 32)) : ∀ m, m ≤ 8 → (some8 w m).length = w.length
  | 0, _ => rfl
  | m + 1, h => by rw [some8_next w m (by omega), qpl, qat_length, some8_length w m (by omega)]
theorem all8_length (w : List (BitVec 32)) : ∀ n, (all8 w n).length = w.length
  | 0 => rfl
  | n + 1 => by rw [all8, some8_length _ 8 (by decide), all8_length w n]
/-- A word as four bytes, the lowest first; four bytes as a word. -/
def le4 (x : BitVec 32) : List (BitVec 8) := [wb x 0, wb x 8, wb x 16, wb x 24]
def lew (b : List (BitVec 8)) (i : Nat) : BitVec 32 :=
  (b.getD (4 * i + 3) 0).setWidth 32 <<< 24 ||| (b.getD (4 * i + 2) 0).setWidth 32 <<< 16 ||| (b.getD (4 * i + 1) 0).setWidth 32 <<< 8 ||| (b.getD (4 * i) 0).setWidth 32
def cfirst (key nonce : List (BitVec 8)) (n : BitVec 32) : List (BitVec 32) :=
  [1634760805, 857760878, 2036477234, 1797285236] ++ (List.range 8).map (lew key) ++ [n] ++ (List.range 3).map (lew nonce)
theorem cfirst_length (key nonce : List (BitVec 8)) (n : BitVec 32) : (cfirst key nonce n).length = 16 := by simp [cfirst]
/-- The words of a block, and its bytes. -/
def cwords (key nonce : List (BitVec 8)) (n : BitVec 32) : List (BitVec 32) := adds (all8 (cfirst key nonce n) 10) (cfirst key nonce n)
def cByte (l : List (BitVec 32)) (i : Nat) : BitVec 8 := wb (l.getD (i / 4) 0) (8 * (i % 4))
def cblk (key nonce : List (BitVec 8)) (n : BitVec 32) : List (BitVec 8) := (List.range 64).map (cByte (cwords key nonce n))
theorem cblk_length (key nonce : List (BitVec 8)) (n : BitVec 32) : (cblk key nonce n).length = 64 := by simp [cblk]
/-- The first j blocks of the stream; its first so many bytes. -/
def cblks (key nonce : List (BitVec 8)) (n : BitVec 32) : Nat → List (BitVec 8)
  | 0 => []
  | j + 1 => cblks key nonce n j ++ cblk key nonce (n + BitVec.ofNat 32 j)
theorem cblks_length (key nonce : List (BitVec 8)) (n : BitVec 32) : ∀ j, (cblks key nonce n j).length = 64 * j
  | 0 => rfl
  | j + 1 => by rw [cblks, List.length_append, cblks_length key nonce n j, cblk_length]; omega
theorem cblks_more (key nonce : List (BitVec 8)) (n : BitVec 32) (j : Nat) : ∀ i, (cblks key nonce n (j + i)).take (64 * j) = cblks key nonce n j
  | 0 => by rw [Nat.add_zero, List.take_of_length_le (by rw [cblks_length]; omega)]
  | i + 1 => by rw [← Nat.add_assoc, cblks, List.take_append_of_le_length (by rw [cblks_length]; omega), cblks_more key nonce n j i]
def cstream (key nonce : List (BitVec 8)) (n : BitVec 32) (size : Nat) : List (BitVec 8) := (cblks key nonce n ((size + 63) / 64)).take size
theorem cstream_length (key nonce : List (BitVec 8)) (n : BitVec 32) (size : Nat) : (cstream key nonce n size).length = size := by
  rw [cstream, List.length_take, cblks_length]; omega
theorem cstream_from (key nonce : List (BitVec 8)) (n : BitVec 32) (size j : Nat) (h : size ≤ 64 * j) : (cblks key nonce n j).take size = cstream key nonce n size := by
  have hc : (size + 63) / 64 ≤ j := by omega
  obtain ⟨i, rfl⟩ : ∃ i, j = (size + 63) / 64 + i := ⟨j - (size + 63) / 64, by omega⟩
  have e := cblks_more key nonce n ((size + 63) / 64) i
  rw [cstream, ← e, List.take_take]
  congr 1
  omega
/-- Bytes turned: those behind the stream as they are. -/
def cturn (b s : List (BitVec 8)) : List (BitVec 8) := List.zipWith (· ^^^ ·) b s ++ b.drop s.length
theorem cturn_length (b s : List (BitVec 8)) (h : s.length ≤ b.length) : (cturn b s).length = b.length := by
  simp [cturn]; omega
theorem zip_back : ∀ b s : List (BitVec 8), s.length ≤ b.length → List.zipWith (· ^^^ ·) (List.zipWith (· ^^^ ·) b s) s = b.take s.length
  | b, [], _ => by simp
  | [], _ :: _, h => by simp at h
  | x :: b, y :: s, h => by
    simp only [List.length_cons] at h
    simp only [List.zipWith_cons_cons, List.length_cons, List.take_succ_cons, zip_back b s (by omega)]
    rw [BitVec.xor_assoc, BitVec.xor_self, BitVec.xor_zero]
/-- What is turned twice is as it was. -/
theorem cturn_back (b s : List (BitVec 8)) (h : s.length ≤ b.length) : cturn (cturn b s) s = b := by
  have hz : (List.zipWith (· ^^^ ·) b s : List (BitVec 8)).length = s.length := by simp; omega
  have h1 : List.zipWith (· ^^^ ·) (cturn b s) s = b.take s.length := by
    rw [← zip_back b s h, cturn]
    have : List.zipWith (· ^^^ ·) (List.zipWith (· ^^^ ·) b s ++ b.drop s.length) (s ++ []) = List.zipWith (· ^^^ ·) (List.zipWith (· ^^^ ·) b s) s ++ List.zipWith (· ^^^ ·) (b.drop s.length) [] := List.zipWith_append hz
    simpa using this
  have h2 : (cturn b s).drop s.length = b.drop s.length := by
    unfold cturn
    rw [List.drop_append, hz, Nat.sub_self, List.drop_zero, List.drop_of_length_le (by rw [hz]; exact Nat.le_refl _), List.nil_append]
  rw [cturn, h1, h2, List.take_append_drop]
/-- A nonce: four bytes of an epoch, eight of a block, the lowest first. -/
def wb64 (x : BitVec 64) (k : Nat) : BitVec 8 := (x >>> k).setWidth 8
def cnonce (e : BitVec 32) (b : BitVec 64) : List (BitVec 8) := (List.range 4).map (fun i => wb e (8 * i)) ++ (List.range 8).map fun i => wb64 b (8 * i)
theorem cnonce_length (e : BitVec 32) (b : BitVec 64) : (cnonce e b).length = 12 := by simp [cnonce]
end Sha
end Go.Proofs.Ytfbhbdllbapnpaa
namespace Go.Proofs.Ytfbhbdllbapnpaa
namespace Mem
open Go.RowKit
theorem all_range_int : ∀ (xs ys : List Int), xs.length = ys.length → ((List.range xs.length).all fun i => xs.getD i 0 == ys.getD i 0) = (xs == ys)
  | [], [], _ => rfl
  | x :: xs, y :: ys, h => by
    have ih := all_range_int xs ys (by simpa using h)
    rw [List.length_cons, List.range_succ_eq_map, List.all_cons, List.all_map]
    simp only [List.getD_cons_zero, Function.comp_def, List.getD_cons_succ, ih]
    simp [List.cons_beq_cons]
  | [], _ :: _, h => by simp at h
  | _ :: _, [], h => by simp at h
theorem run_equalIn_ints {P : Program} (w : World) (d : Nat) (t e : TypeId) (k : IntKind) (n : Nat) (ht : P.underlying t = some (.array n e)) (he : P.underlying e = some (.int k)) (hsz : ∀ w, (sizeOf e).run P w = .ok 1 w)
    (xs ys : List Int) (hx : xs.length = n) (hy : ys.length = n) :
    (Op.equalIn (d + 2) t (.agg (xs.map (Value.int k)).toArray) (.agg (ys.map (Value.int k)).toArray)).run P w = .ok (xs == ys) w := by
  rw [← all_range_int xs ys (hx.trans hy.symm), hx, List.range_eq_range', Op.equalIn]
  simp only [Sem.run_bind, run_underlying ht, Result.andThen_ok, hsz, Std.Legacy.Range.forIn_eq_forIn_range', Std.Legacy.Range.size, Nat.sub_zero, Nat.add_sub_cancel, Nat.div_one]
  have hl : ∀ i ∈ List.range' 0 n 1, i < n := fun i hi => by simpa using (List.mem_range'_1.1 hi).2
  generalize List.range' 0 n 1 = l at hl ⊢
  induction l with
  | nil => simp
  | cons i l ih =>
    have hi : i < n := hl i (by simp)
    have px : (part e (xs.map (Value.int k)).toArray (i * 1)).run P w = .ok (.int k (xs.getD i 0)) w := by
      simp [part, isAgg, run_underlying he, List.getD, List.getElem?_eq_getElem (show i < xs.length by omega)]
    have py : (part e (ys.map (Value.int k)).toArray (i * 1)).run P w = .ok (.int k (ys.getD i 0)) w := by
      simp [part, isAgg, run_underlying he, List.getD, List.getElem?_eq_getElem (show i < ys.length by omega)]
    have pe : (Op.equalIn (d + 1) e (.int k (xs.getD i 0)) (.int k (ys.getD i 0))).run P w = .ok (xs.getD i 0 == ys.getD i 0) w := by
      rw [run_equalIn_int w d e k k _ _ he]
    simp only [List.forIn_cons, Sem.run_bind, px, py, pe, Result.andThen_ok, List.all_cons]
    cases hb : (xs.getD i 0 == ys.getD i 0)
    · simp
    · simp only [Bool.not_true, Bool.false_eq_true, if_false, Sem.run_pure, Result.andThen_ok, Bool.true_and]
      exact ih fun j hj => hl j (by simp [hj])
/-- Two arrays of integers are the same just if their lists are. -/
theorem eql_ints {P : Program} (w : World) (t e : TypeId) (k : IntKind) (n : Nat) (x y : Operand) (ht : P.underlying t = some (.array n e)) (he : P.underlying e = some (.int k)) (hsz : (P.info? e).map (·.size) = some 1) (hg : P.eqGuardType P.depth t = false) (xs ys : List Int) (hx : xs.length = n) (hy : ys.length = n) :
    (do eqGuard .eql t x y (.agg (xs.map (Value.int k)).toArray) (.agg (ys.map (Value.int k)).toArray); binOp .eql t (.agg (xs.map (Value.int k)).toArray) (.agg (ys.map (Value.int k)).toArray) : Sem Value).run P w = .ok (.bool (xs == ys)) w := by
  have hs1 : ∀ w, (sizeOf e).run P w = .ok 1 w := fun w => by
    cases hq : P.info? e with
    | none => simp [hq] at hsz
    | some q => simp [sizeOf, typeInfo, hq, show q.size = 1 by simpa [hq] using hsz]
  rw [Sem.run_bind, run_eqGuard_agg w .eql t x y _ _ hg, Result.andThen_ok, run_eql_struct, run_equalIn_ints w 9998 t e k n ht he hs1 xs ys hx hy]
  rfl
end Mem
end Go.Proofs.Ytfbhbdllbapnpaa
namespace Go.Proofs.Ytfbhbdllbapnpaa
namespace Mem
open Go.RowKit
/-- The fields: is it compared, its type, its place. -/
def eqParts (d : Nat) (xs ys : Array Value) : List (Bool × TypeId × Nat) → Sem Bool
  | [] => pure true
  | (true, t, o) :: l => do
    let a ← part t xs o
    let b ← part t ys o
    let r ← Op.equalIn d t a b
    if (!r) = true then pure false else eqParts d xs ys l
  | (false, _, _) :: l => eqParts d xs ys l
theorem eqFields_parts (d : Nat) (xs ys : Array Value) : ∀ fs : List Field, Op.eqFields d xs ys fs = eqParts d xs ys (fs.map fun f => (decide (f.name ≠ "_"), f.type, f.offset))
  | [] => rfl
  | f :: fs => by
    rw [List.map_cons, Op.eqFields, eqFields_parts d xs ys fs]
    by_cases h : f.name ≠ "_"
    · rw [if_pos h, decide_eq_true h, eqParts]
    · rw [if_neg h, decide_eq_false h, eqParts]
theorem eqParts_cons {P : Program} {w : World} {d : Nat} {xs ys : Array Value} {t : TypeId} {o : Nat} {l : List (Bool × TypeId × Nat)} {a b : Value} {r s : Bool} (ha : (part t xs o).run P w = .ok a w) (hb : (part t ys o).run P w = .ok b w) (hr : (Op.equalIn d t a b).run P w = .ok r w) (hl : (eqParts d xs ys l).run P w = .ok s w) :
    (eqParts d xs ys ((true, t, o) :: l)).run P w = .ok (r && s) w := by
  rw [eqParts, Sem.run_bind, ha, Result.andThen_ok, Sem.run_bind, hb, Result.andThen_ok, Sem.run_bind, hr, Result.andThen_ok]
  cases r
  · simp
  · simpa using hl
theorem run_part_int {P : Program} (w : World) (t : TypeId) (k : IntKind) (hu : P.underlying t = some (.int k)) (xs : Array Value) (o : Nat) (v : Value) (h : xs[o]? = some v) : (part t xs o).run P w = .ok v w := by
  simp [part, isAgg, run_underlying hu, h]
theorem run_part_arr {P : Program} (w : World) (t e : TypeId) (n m : Nat) (hu : P.underlying t = some (.array n e)) (hs : (P.info? t).map (·.size) = some m) (xs : Array Value) (o : Nat) (R : Array Value) (h : xs.extract o (o + m) = R) : (part t xs o).run P w = .ok (.agg R) w := by
  cases hq : P.info? t with
  | none => simp [hq] at hs
  | some q =>
    have hm : q.size = m := by simpa [hq] using hs
    simp [part, isAgg, run_underlying hu, sizeOf, typeInfo, hq, hm, h]
end Mem
end Go.Proofs.Ytfbhbdllbapnpaa
namespace Go.Proofs.Ytfbhbdllbapnpaa
namespace Sha
open Go.RowKit Mem
theorem infoDg : (Try.prog.info? 35).map (·.size) = some 32 := by kernel_rfl
theorem sizeB1 (w : World) : (sizeOf 5).run Try.prog w = .ok 1 w := by kernel_rfl
set_option maxRecDepth 10000 in
theorem eq32 (d : Nat) (l m : List (BitVec 8)) (hl : l.length = 32) (hm : m.length = 32) (w : World) : (Op.equalIn (d + 2) 35 (.agg (u8s l).toArray) (.agg (u8s m).toArray)).run Try.prog w = .ok (l == m) w := by
  have e1 : ∀ k : List (BitVec 8), u8s k = (k.map fun x => (x.toNat : Int)).map (Value.int .u8) := fun k => by simp [u8s]
  have h := run_equalIn_ints (P := Try.prog) w d 35 5 .u8 32 Try.underlying35 Try.underlying5 sizeB1 (l.map fun x => (x.toNat : Int)) (m.map fun x => (x.toNat : Int)) (by simpa using hl) (by simpa using hm)
  rw [e1, e1, h]
  congr 1
  rw [Bool.eq_iff_iff, beq_iff_eq, beq_iff_eq]
  exact (List.map_inj_right (fun a b h => by apply BitVec.eq_of_toNat_eq; omega)).trans Iff.rfl
theorem neqDg (l m : List (BitVec 8)) (hl : l.length = 32) (hm : m.length = 32) (x y : Operand) (w : World) : (do eqGuard .neq 35 x y (.agg (u8s l).toArray) (.agg (u8s m).toArray); binOp .neq 35 (.agg (u8s l).toArray) (.agg (u8s m).toArray) : Sem Value).run Try.prog w = .ok (.bool (!(l == m))) w := by
  rw [Sem.run_bind, run_eqGuard_agg w .neq 35 x y _ _ (by kernel_rfl), Result.andThen_ok, run_neq_struct, eq32 9998 l m hl hm w]; rfl
theorem eqlDg (l m : List (BitVec 8)) (hl : l.length = 32) (hm : m.length = 32) (x y : Operand) (w : World) : (do eqGuard .eql 35 x y (.agg (u8s l).toArray) (.agg (u8s m).toArray); binOp .eql 35 (.agg (u8s l).toArray) (.agg (u8s m).toArray) : Sem Value).run Try.prog w = .ok (.bool (l == m)) w := by
  rw [Sem.run_bind, run_eqGuard_agg w .eql 35 x y _ _ (by kernel_rfl), Result.andThen_ok, run_eql_struct, eq32 9998 l m hl hm w]; rfl
end Sha
end Go.Proofs.Ytfbhbdllbapnpaa
namespace Go.Proofs.Ytfbhbdllbapnpaa
namespace Mem
open Go.RowKit
/-- A load of a whole block in a plain region, guarded or not. -/
theorem wpList_load_wanted {P : Program} {ops : Array Oper} {rest : List Oper} {o : Oper} {a : Act} {w : World} {Q : Exit → Act → World → Prop} (hw : Region.wanted o (yielded ops a.tmps) = true) (ty : TypeId) (x : Operand) (hop : o.op = .load ty x)
    (b : Nat) (hx : a.eval x = .pointer (some ⟨b, 0, none⟩)) (d : TypeDesc) (hu : P.underlying ty = some d) (hd : d.isRow = true)
    (C : Array Value) (t : TypeId) (hC : At w b C t) (hi : (P.info? ty).map (·.size) = some C.size) (h : wpList P ops Q rest (a.put o.dst (.agg C)) w) : wpList P ops Q (o :: rest) a w := by
  unfold wpList
  rw [if_pos hw]
  left
  unfold Oper.wp
  have hrg := hC.range 0 C.size
  have hr := run_loadAt_mid (P := P) w b 0 ty (C.extract 0 (0 + C.size)).toList d hrg hu hd (by rw [hi]; simp)
  have : (execOp a.eval o).run P w = .ok (.value (.agg C)) w := by
    unfold execOp
    simp only [hop, hx, Sem.run_bind, hr, Result.andThen_ok, Sem.run_pure]
    simp
  rw [this]
  exact h
theorem wpList_load_is_wanted {P : Program} {ops : Array Oper} {rest : List Oper} {o : Oper} {a : Act} {w : World} {Q : Exit → Act → World → Prop} (hw : Region.wanted o (yielded ops a.tmps) = true) (ty : TypeId) (x : Operand) (hop : o.op = .load ty x)
    (b c n : Nat) (hx : a.eval x = .pointer (some ⟨b, c, none⟩)) (d : TypeDesc) (hu : P.underlying ty = some d) (hd : d.isRow = true) (hi : (P.info? ty).map (·.size) = some n)
    (C : Array Value) (t : TypeId) (hC : At w b C t) (hn : c + n ≤ C.size) (R : Array Value) (hR : C.extract c (c + n) = R) (h : wpList P ops Q rest (a.put o.dst (.agg R)) w) : wpList P ops Q (o :: rest) a w := by
  unfold wpList
  rw [if_pos hw]
  left
  unfold Oper.wp
  have hr := run_loadAt_mid (P := P) w b c ty (C.extract c (c + n)).toList d (hC.range c n) hu hd (by rw [hi]; simp; omega)
  have : (execOp a.eval o).run P w = .ok (.value (.agg R)) w := by
    unfold execOp
    simp only [hop, hx, Sem.run_bind, hr, Result.andThen_ok, Sem.run_pure]
    simp [hR]
  rw [this]
  exact h
end Mem
end Go.Proofs.Ytfbhbdllbapnpaa
namespace Go.Proofs.Ytfbhbdllbapnpaa
namespace Sha
open Go.RowKit Mem
/-- It returns a slice of its own, just the list L, in a block that fills. -/
def SEnd (w : World) (L : List (BitVec 8)) (e : Ending) (w' : World) : Prop :=
  ∃ g, e = .returned (.slice (some ⟨g, 0, none⟩) L.length L.length) ∧ At w' g (u8s L).toArray 5 ∧ w.heap.size ≤ g ∧ Below w.heap.size w w'
/-- It returns a slice that reads as L. -/
def RSEnd (w : World) (L : List (BitVec 8)) (e : Ending) (w' : World) : Prop := ∃ v, e = .returned v ∧ Sl w' v L ∧ Below w.heap.size w w'
theorem send_r {w w' : World} {L : List (BitVec 8)} {e : Ending} (h : SEnd w L e w') : RSEnd w L e w' := by
  obtain ⟨g, rfl, ha, _, hb⟩ := h
  exact ⟨_, rfl, at_sl ha rfl, hb⟩
/-- It returns a slice that reads as L, and a number. -/
def TwoEnd (w : World) (L : List (BitVec 8)) (n : Int) (e : Ending) (w' : World) : Prop := ∃ v, e = .returned (.tuple #[v, .int .i64 n]) ∧ Sl w' v L ∧ Below w.heap.size w w'
theorem sl_none (w : World) : Sl w (.slice none 0 0) [] := ⟨none, 0, rfl, by simp, fun h => absurd rfl h⟩
end Sha
end Go.Proofs.Ytfbhbdllbapnpaa
namespace Go.Proofs.Ytfbhbdllbapnpaa
namespace Sha
open Go.RowKit Mem
/-- The first i bytes of a row of n, the others 0. -/
def rowZ (l : List (BitVec 8)) (n i : Nat) : List (BitVec 8) := l.take i ++ List.replicate (n - i) 0
theorem rowZ_length (l : List (BitVec 8)) (n i : Nat) (hl : l.length = n) (h : i ≤ n) : (rowZ l n i).length = n := by simp [rowZ, hl]; omega
theorem rowZ_set (l : List (BitVec 8)) (n i : Nat) (hl : l.length = n) (h : i < n) : (rowZ l n i).set i (l.getD i 0) = rowZ l n (i + 1) := by
  unfold rowZ
  have hi : i < l.length := by omega
  rw [List.set_append_right _ _ (by rw [List.length_take]; omega), List.length_take, Nat.min_eq_left (by omega), Nat.sub_self, show n - i = (n - (i + 1)) + 1 by omega, List.replicate_succ, List.set_cons_zero, List.take_succ_eq_append_getElem hi, List.append_assoc]
  simp [List.getD_eq_getElem?_getD, hi]
theorem rowZ_all (l : List (BitVec 8)) (n : Nat) (hl : l.length = n) : rowZ l n n = l := by
  unfold rowZ
  rw [List.take_of_length_le (by omega)]
  simp
end Sha
end Go.Proofs.Ytfbhbdllbapnpaa
namespace Go.Proofs.Ytfbhbdllbapnpaa
namespace Mem
open Go.RowKit
abbrev Foot := Nat → Prop
/-- All blocks but those of F are as they were. -/
structure Chg (F : Foot) (w w' : World) : Prop where
  os : w'.os = w.os
  tape : w'.tape = w.tape
  output : w'.output = w.output
  size : w.heap.size ≤ w'.heap.size
  block : ∀ k, k < w.heap.size → ¬ F k → w'.heap[k]? = w.heap[k]?
theorem Chg.refl (F : Foot) (w : World) : Chg F w w := ⟨rfl, rfl, rfl, Nat.le_refl _, fun _ _ _ => rfl⟩
theorem Chg.of_below {F : Foot} {w w' : World} (h : Below w.heap.size w w') : Chg F w w' := ⟨h.os, h.tape, h.output, h.size, fun k hk _ => h.block k hk⟩
theorem Chg.trans {F F1 : Foot} {w w1 w2 : World} (h : Chg F w w1) (k : Chg F1 w1 w2) (hs : ∀ x, F1 x → F x ∨ w.heap.size ≤ x) : Chg F w w2 :=
  ⟨k.os.trans h.os, k.tape.trans h.tape, k.output.trans h.output, Nat.le_trans h.size k.size, fun x hx hn => (k.block x (Nat.lt_of_lt_of_le hx h.size) (fun h1 => (hs x h1).elim hn (fun h2 => by omega))).trans (h.block x hx hn)⟩
theorem Chg.mono {F G : Foot} {w w' : World} (h : Chg F w w') (hs : ∀ x, F x → G x ∨ w.heap.size ≤ x) : Chg G w w' :=
  ⟨h.os, h.tape, h.output, h.size, fun x hx hn => h.block x hx (fun h1 => (hs x h1).elim hn (fun h2 => by omega))⟩
theorem Chg.below {F : Foot} {B : Nat} {x w w' : World} (h : Chg F w w') (hb : Below B x w) (hF : ∀ k, F k → B ≤ k) (hB : B ≤ w.heap.size) : Below B x w' :=
  ⟨h.os.trans hb.os, h.tape.trans hb.tape, h.output.trans hb.output, Nat.le_trans hb.size h.size, fun k hk => (h.block k (Nat.lt_of_lt_of_le hk hB) (fun h1 => by have := hF k h1; omega)).trans (hb.block k hk)⟩
theorem Chg.drew {F : Foot} {w w' : World} (h : Chg F w w') : Chg F w w'.drew := ⟨h.os, h.tape, h.output, h.size, h.block⟩
theorem At.chg {F : Foot} {w w' : World} {b : Nat} {C : Array Value} {t : TypeId} (h : At w b C t) (hc : Chg F w w') (hn : ¬ F b) : At w' b C t := by
  have hl := h.lt
  unfold At at *
  rw [hc.block b hl hn]; exact h
/-- F, and all blocks that were made since. -/
def grow (F : Foot) (w w' : World) : Foot := fun k => (F k ∨ w.heap.size ≤ k) ∧ k < w'.heap.size
theorem grow_ext {F : Foot} {w w' : World} : ∀ k, grow F w w' k → F k ∨ w.heap.size ≤ k := fun _ h => h.1
theorem grow_lt {F : Foot} {w w' : World} : ∀ k, grow F w w' k → k < w'.heap.size := fun _ h => h.2
theorem grow_grow {F : Foot} {w w1 w2 : World} (h : w.heap.size ≤ w1.heap.size) : ∀ k, grow (grow F w w1) w1 w2 k → grow F w w2 k := fun k hk =>
  ⟨hk.1.elim (fun h1 => h1.1) (fun h1 => .inr (by omega)), hk.2⟩
/-- A slice of n rows of z cells each, in a block of F, that reads as the cells xs. -/
def SlR (F : Foot) (w : World) (z : Nat) (v : Value) (n : Nat) (xs : List Value) : Prop :=
  xs.length = n * z ∧ ∃ a cap, v = .slice a n cap ∧ n ≤ cap ∧ (n ≠ 0 → ∃ bb oo, a = some ⟨bb, oo, none⟩ ∧ F bb ∧ bb < w.heap.size ∧ ∀ (j : Nat) u, xs[j]? = some u → w.cell? ⟨bb, oo + j, none⟩ = some u)
theorem SlR.nil (F : Foot) (w : World) (z : Nat) : SlR F w z (.slice none 0 0) 0 [] := ⟨by simp, none, 0, rfl, Nat.le_refl _, fun h => absurd rfl h⟩
theorem SlR.keep {F : Foot} {w w' : World} {z n : Nat} {v : Value} {xs : List Value} (h : SlR F w z v n xs) (hs : w.heap.size ≤ w'.heap.size) (hk : ∀ k, F k → k < w.heap.size → w'.heap[k]? = w.heap[k]?) : SlR F w' z v n xs := by
  obtain ⟨hl, a, cap, e, hc, hr⟩ := h
  refine ⟨hl, a, cap, e, hc, fun hne => ?_⟩
  obtain ⟨bb, oo, ea, hF, hlt, hcell⟩ := hr hne
  exact ⟨bb, oo, ea, hF, Nat.lt_of_lt_of_le hlt hs, fun j u hu => by rw [World.cell?_of_block (w := w) (w' := w') (a := ⟨bb, oo + j, none⟩) (hk bb hF hlt)]; exact hcell j u hu⟩
theorem SlR.mono {F G : Foot} {w : World} {z n : Nat} {v : Value} {xs : List Value} (h : SlR F w z v n xs) (hs : ∀ k, F k → k < w.heap.size → G k) : SlR G w z v n xs := by
  obtain ⟨hl, a, cap, e, hc, hr⟩ := h
  refine ⟨hl, a, cap, e, hc, fun hne => ?_⟩
  obtain ⟨bb, oo, ea, hF, hlt, hcell⟩ := hr hne
  exact ⟨bb, oo, ea, hs bb hF hlt, hlt, hcell⟩
theorem SlR.below {F : Foot} {w w' : World} {z n : Nat} {v : Value} {xs : List Value} (h : SlR F w z v n xs) (hb : Below w.heap.size w w') : SlR F w' z v n xs :=
  h.keep hb.size fun k _ hk => hb.block k hk
theorem slR_at {F : Foot} {w : World} {z n cap : Nat} {a : Option Addr} {xs : List Value} (h : SlR F w z (.slice a n cap) n xs) {i : Nat} (hi : i < n) :
    ∃ b o, a = some ⟨b, o, none⟩ ∧ F b ∧ ∀ j, j < z → w.cell? ⟨b, o + (z * i + j), none⟩ = xs[z * i + j]? := by
  obtain ⟨hl, a', cap', e, _, hr⟩ := h
  injection e with e1 _ _
  obtain ⟨b, o, ea, hF, _, hc⟩ := hr (by omega)
  refine ⟨b, o, by rw [e1]; exact ea, hF, fun j hj => ?_⟩
  have hlt : z * i + j < xs.length := by
    rw [hl]
    have : z * i + z ≤ n * z := by rw [← Nat.mul_succ, Nat.mul_comm]; exact Nat.mul_le_mul_right z hi
    omega
  rw [List.getElem?_eq_getElem hlt]
  exact hc _ _ (List.getElem?_eq_getElem hlt)
/-- What the law of append asks of an element's type of z cells. -/
def elemR (P : Program) (t e : TypeId) (zv : Value) (z bytes : Nat) : Prop := P.underlying t = some (.slice e) ∧ (P.info? e).map (fun i => (i.zero, i.size, i.bytes)) = some (some zv, z, bytes)
/-- v reads as n rows. -/
def RdR (w : World) (z : Nat) (v : Value) (n : Nat) (xs : List Value) : Prop := xs.length = n * z ∧ ∃ a cap, v = .slice a n cap ∧ (n ≠ 0 → ∃ p, a = some p ∧ ∀ i u, xs[i]? = some u → w.cell? (p.add i) = some u)
theorem SlR.rd {F : Foot} {w : World} {z n : Nat} {v : Value} {xs : List Value} (h : SlR F w z v n xs) : RdR w z v n xs := by
  obtain ⟨hl, a, cap, e, _, hr⟩ := h
  refine ⟨hl, a, cap, e, fun hne => ?_⟩
  obtain ⟨bb, oo, ea, _, _, hc⟩ := hr hne
  exact ⟨_, ea, fun i u hu => by rw [Addr.add_mid]; exact hc i u hu⟩
theorem rdR_new {w : World} {e : TypeId} {C : Array Value} : RdR (w.alloc (.cells C e)) C.size (.slice (some ⟨w.heap.size, 0, none⟩) 1 1) 1 C.toList :=
  ⟨by simp, _, _, rfl, fun _ => ⟨_, rfl, fun i u hu => by rw [Addr.add_mid, Nat.zero_add, (at_new w C e).cell, ← hu, Array.getElem?_toList]⟩⟩
theorem rdR_at {w : World} {g : Nat} {e : TypeId} {C : Array Value} (h : At w g C e) : RdR w C.size (.slice (some ⟨g, 0, none⟩) 1 1) 1 C.toList :=
  ⟨by simp, _, _, rfl, fun _ => ⟨_, rfl, fun i u hu => by rw [Addr.add_mid, Nat.zero_add, h.cell, ← hu, Array.getElem?_toList]⟩⟩
theorem ownsRow_slR {w : World} {B : Nat} {e : TypeId} {z n : Nat} {v : Value} {xs : List Value} (h : w.ownsRow B e z v n xs) : SlR (fun k => B ≤ k) w z v n xs := by
  obtain ⟨hl, h | ⟨g, cap, cur, rfl, hg, hh, hn, hc, hs, ht⟩⟩ := h
  · obtain ⟨rfl, rfl⟩ := h
    have : xs = [] := List.eq_nil_of_length_eq_zero (by simpa using hl)
    subst this
    exact SlR.nil _ _ _
  · refine ⟨hl, _, cap, rfl, hn, fun _ => ⟨g, 0, rfl, hg, (Array.getElem?_eq_some_iff.1 hh).1, fun j u hu => ?_⟩⟩
    have hi := (List.getElem?_eq_some_iff.1 hu).1
    rw [Nat.zero_add, cell_of_row w g j cur _ (0, 0) hh]
    have h1 : (cur.toList.take (n * z))[j]? = xs[j]? := by rw [ht]
    rw [List.getElem?_take, if_pos (by omega)] at h1
    rw [← Array.getElem?_toList, h1, hu]
theorem ownsRow_keep {w w' : World} {B : Nat} {e : TypeId} {z n : Nat} {v : Value} {xs : List Value} (h : w.ownsRow B e z v n xs) (hk : ∀ g, v.ownBlock = some g → w'.heap[g]? = w.heap[g]?) : w'.ownsRow B e z v n xs := by
  refine ⟨h.1, ?_⟩
  rcases h.2 with hn | ⟨g, cap, cur, rfl, hg, hh, hr⟩
  · exact .inl hn
  · exact .inr ⟨g, cap, cur, rfl, hg, by rw [hk g rfl]; exact hh, hr⟩
theorem ownsRow_below {w w' : World} {B : Nat} {e : TypeId} {z n : Nat} {v : Value} {xs : List Value} (h : w.ownsRow B e z v n xs) (hb : Below w.heap.size w w') : w'.ownsRow B e z v n xs :=
  ownsRow_keep h fun g hg => hb.block g (World.ownsRow.lt h g hg).2
theorem ownsRow_base {w : World} {B B' : Nat} {e : TypeId} {z n : Nat} {v : Value} {xs : List Value} (h : w.ownsRow B e z v n xs) (hB : B' ≤ B) : w.ownsRow B' e z v n xs := by
  refine ⟨h.1, ?_⟩
  rcases h.2 with hn | ⟨g, cap, cur, e, hg, hr⟩
  · exact .inl hn
  · exact .inr ⟨g, cap, cur, e, Nat.le_trans hB hg, hr⟩
/-- Own rows of other types lie in other blocks. -/
theorem ownsRow_ne {w : World} {B B' : Nat} {e e' : TypeId} {z z' n n' : Nat} {v v' : Value} {xs ys : List Value} (h : w.ownsRow B e z v n xs) (k : w.ownsRow B' e' z' v' n' ys) (he : e ≠ e') : ∀ g, v.ownBlock = some g → v'.ownBlock ≠ some g := by
  intro g hg hg'
  rcases h.2 with ⟨rfl, _⟩ | ⟨b, cap, cur, rfl, _, hh, _⟩
  · simp [Value.ownBlock] at hg
  rcases k.2 with ⟨rfl, _⟩ | ⟨b', cap', cur', rfl, _, hh', _⟩
  · simp [Value.ownBlock] at hg'
  have e1 : b = g := by simpa [Value.ownBlock] using hg
  have e2 : b' = g := by simpa [Value.ownBlock] using hg'
  subst e1; subst e2
  rw [hh] at hh'
  injection hh' with hh'
  injection hh' with _ h2
  exact he h2
theorem ownsRow_nil0 (w : World) (B : Nat) (e : TypeId) (z : Nat) : w.ownsRow B e z (.slice none 0 0) 0 [] := ⟨by simp, .inl ⟨rfl, rfl⟩⟩
section
variable {P : Program} {w : World} {B : Nat} {e : TypeId} {v : Value} {xs : List Value}
theorem run_append_rows {t ty : TypeId} {zv vx : Value} {n m z : Nat} {ys : List Value} {bytes : Nat} (he : elemR P t e zv z bytes) (hzv : zv.cells.size = z) (hz0 : 0 < z) (hown : w.ownsRow B e z v n xs) (hrd : RdR w z vx m ys) (h1 : ∀ u ∈ ys, u.oneCell' = true) (hlen : (n + m) * bytes ≤ 140737488355328) (hl2 : n + m < 140737488355328) (hB : B ≤ w.heap.size) :
    ∃ v' w', (Builtin.append_ #[t, t] ty #[v, vx]).run P w = .ok v' w' ∧ w'.ownsRow B e z v' (n + m) (xs ++ ys) ∧ (∀ k, k < w.heap.size → v.ownBlock ≠ some k → w'.heap[k]? = w.heap[k]?) ∧ Below B w w' := by
  obtain ⟨i0, hi, hzz, hs, hb⟩ := info_parts he.2
  obtain ⟨hyl, a0, cap, rfl, hr⟩ := hrd
  have hml : 140737488355328 ≤ maxLen := by simp [maxLen]
  have hlt : ∀ g, v.ownBlock = some g → B ≤ g := fun g hg => (World.ownsRow.lt hown g hg).1
  by_cases hne : m = 0
  · subst hne
    have hys : ys = [] := List.eq_nil_of_length_eq_zero (by simpa using hyl)
    subst hys
    cases a0 with
    | none =>
      refine ⟨v, w, ?_, by simpa using hown, fun _ _ _ => rfl, Below.refl _ _⟩
      rcases hown.2 with ⟨rfl, rfl⟩ | ⟨g, cap', cur, rfl, _, _, hn, _⟩
      · simp [Builtin.append_, run_underlying he.1, sizeOf, typeInfo, hi, Builtin.lenOf, Builtin.firstCells]
      · simp [Builtin.append_, run_underlying he.1, sizeOf, typeInfo, hi, Builtin.lenOf, Builtin.firstCells, hn, storeCells]
    | some ad =>
      obtain ⟨v', w', hrun, h2, h3, _, _⟩ := run_append_own_at (P := P) w B t ty e i0 zv z bytes he.1 hi hzz hs hb hzv hz0 v n xs hown ad 0 cap [] (by simp) (fun j u hu => by simp at hu) (fun u hu => by simp at hu) (by omega) (by simpa using hlen) hB
      exact ⟨v', w', hrun, h2, fun k hk hne => h3.block k hk (fun e => hne e.symm), (Below.refl _ _).grown h3 hB hlt⟩
  · obtain ⟨ad, rfl, hc⟩ := hr hne
    obtain ⟨v', w', hrun, h2, h3, _, _⟩ := run_append_own_at (P := P) w B t ty e i0 zv z bytes he.1 hi hzz hs hb hzv hz0 v n xs hown ad m cap ys hyl hc h1 (by omega) hlen hB
    exact ⟨v', w', hrun, h2, fun k hk hne => h3.block k hk (fun e => hne e.symm), (Below.refl _ _).grown h3 hB hlt⟩
theorem wpList_append_rows {ops : Array Oper} {rest : List Oper} {o : Oper} {a : Act} {Q : Exit → Act → World → Prop} (hgd : o.guard = none) (s x : Operand) (t : TypeId) (ho : o.op = .call { callee := .builtin .append, args := #[s, x], argTypes := #[t, t] })
    (vx : Value) (n m z : Nat) (ys : List Value) (zv : Value) (bytes : Nat) (he : elemR P t e zv z bytes) (hzv : zv.cells.size = z) (hz0 : 0 < z) (hs : a.eval s = v) (hown : w.ownsRow B e z v n xs) (hx : a.eval x = vx) (hrd : RdR w z vx m ys) (h1 : ∀ u ∈ ys, u.oneCell' = true) (hlen : (n + m) * bytes ≤ 140737488355328) (hl2 : n + m < 140737488355328) (hB : B ≤ w.heap.size)
    (h : ∀ v' w', w'.ownsRow B e z v' (n + m) (xs ++ ys) → (∀ k, k < w.heap.size → v.ownBlock ≠ some k → w'.heap[k]? = w.heap[k]?) → Below B w w' → wpList P ops Q rest (a.put o.dst v') w') :
    wpList P ops Q (o :: rest) a w := by
  refine wpList_plain hgd fun K hK => ?_
  obtain ⟨v', w', hrun, h2, h3, h4⟩ := run_append_rows (P := P) (ty := o.type) he hzv hz0 hown hrd h1 hlen hl2 hB
  unfold Oper.wp execOp
  simp only [ho, resolve, invoke, builtin, Sem.run_bind, Sem.run_pure, Result.andThen_ok, List.map_toArray, List.map_cons, List.map_nil, hs, hx, hrun]
  exact hK _ _ (h v' w' h2 h3 h4)
theorem plan_append_rows {ops : Array Oper} {o : Oper} {a : Act} {Q : Exit → Act → World → Prop} {S : World → Prop} {i : Nat} {r : Plan} (s x : Operand) (t : TypeId) (ho : ops.toList[i]? = some o) (hw : Region.wanted o (yielded ops a.tmps) = true) (hop : o.op = .call { callee := .builtin .append, args := #[s, x], argTypes := #[t, t] })
    (vx : Value) (n m z : Nat) (ys : List Value) (zv : Value) (bytes : Nat) (he : elemR P t e zv z bytes) (hzv : zv.cells.size = z) (hz0 : 0 < z) (hs : a.eval s = v) (hown : w.ownsRow B e z v n xs) (hx : a.eval x = vx) (hrd : RdR w z vx m ys) (h1 : ∀ u ∈ ys, u.oneCell' = true) (hlen : (n + m) * bytes ≤ 140737488355328) (hl2 : n + m < 140737488355328) (hB : B ≤ w.heap.size)
    (h : ∀ v' w', w'.ownsRow B e z v' (n + m) (xs ++ ys) → (∀ k, k < w.heap.size → v.ownBlock ≠ some k → w'.heap[k]? = w.heap[k]?) → Below B w w' → S w' ∧ wpPlan P ops Q S r (a.put o.dst v') w') :
    wpPlan P ops Q S (.sole i r) a w := by
  refine wpOp_at ho hw ?_
  obtain ⟨v', w', hrun, h2, h3, h4⟩ := run_append_rows (P := P) (ty := o.type) he hzv hz0 hown hrd h1 hlen hl2 hB
  unfold Oper.wp execOp
  simp only [hop, resolve, invoke, builtin, Sem.run_bind, Sem.run_pure, Result.andThen_ok, List.map_toArray, List.map_cons, List.map_nil, hs, hx, hrun]
  exact h v' w' h2 h3 h4
end
/-- The end of a function whose results are a row in a block known whole, and a value. -/
theorem ret_row_tmp {P : Program} {fn : Func} {R : Ending → World → Prop} {tmps : Array Value} {w : World} {p u : Tmp} {ty : TypeId} (h : fn.results = #[.cell p ty, .tmp u]) (g : Nat) (t : TypeId) (cs : Array Value) (d : TypeDesc) (v : Value)
    (hp : tmps.getD p undef = .pointer (some ⟨g, 0, none⟩)) (hv : tmps.getD u undef = v) (hg : At w g cs t) (hu : P.underlying ty = some d) (hd : d.isRow = true) (hi : (P.info? ty).map (·.size) = some cs.size)
    (hR : R (.returned (.tuple #[.agg cs, v])) w) : bodyPost P fn R .ret ⟨tmps, []⟩ w := by
  refine bodyPost_ret (v := .tuple #[.agg cs, v]) ?_ rfl hR
  rw [results_cell_tmp h, hp, hv]
  have hrow := run_loadVar_row (P := P) w g t ty cs (0, 0) d hg hu (by cases d <;> first | rfl | exact hd) hi
  simp [asAddr, Result.andThen, hrow]
/-- Two lists, member by member. -/
def Each2 {α β : Type} (R : α → β → Prop) : List α → List β → Prop
  | [], [] => True
  | x :: l, y :: m => R x y ∧ Each2 R l m
  | _, _ => False
theorem Each2.length {α β : Type} {R : α → β → Prop} : ∀ {l : List α} {m : List β}, Each2 R l m → l.length = m.length
  | [], [], _ => rfl
  | _ :: l, _ :: m, h => by simp [Each2.length h.2]
theorem Each2.mono {α β : Type} {R S : α → β → Prop} (hs : ∀ x y, R x y → S x y) : ∀ {l : List α} {m : List β}, Each2 R l m → Each2 S l m
  | [], [], _ => trivial
  | _ :: _, _ :: _, h => ⟨hs _ _ h.1, Each2.mono hs h.2⟩
theorem Each2.snoc {α β : Type} {R : α → β → Prop} {x : α} {y : β} (hr : R x y) : ∀ {l : List α} {m : List β}, Each2 R l m → Each2 R (l ++ [x]) (m ++ [y])
  | [], [], _ => ⟨hr, trivial⟩
  | _ :: _, _ :: _, h => ⟨h.1, Each2.snoc hr h.2⟩
theorem Each2.at {α β : Type} {R : α → β → Prop} : ∀ {l : List α} {m : List β}, Each2 R l m → ∀ {i : Nat} {y : β}, m[i]? = some y → ∃ x, l[i]? = some x ∧ R x y
  | [], [], _, _, _, hy => by simp at hy
  | _ :: _, z :: _, h, 0, y, hy => by
    have hzy : z = y := by simpa using hy
    subst hzy
    exact ⟨_, rfl, h.1⟩
  | _ :: l, _ :: m, h, i + 1, y, hy => by
    have hy' : m[i]? = some y := by simpa using hy
    simpa using Each2.at h.2 hy'
end Mem
end Go.Proofs.Ytfbhbdllbapnpaa
namespace Go.Proofs.Ytfbhbdllbapnpaa
namespace Sha
open Go.RowKit Mem
theorem own_ne_at {w : World} {B b z n : Nat} {e t : TypeId} {v : Value} {xs : List Value} {C : Array Value} (h : w.ownsRow B e z v n xs) (hC : At w b C t) (ht : t ≠ e) : v.ownBlock ≠ some b := by
  rcases h.2 with ⟨rfl, _⟩ | ⟨g, cap, cur, rfl, hg, hh, hr⟩
  · simp [Value.ownBlock]
  · intro e
    have : g = b := by simpa [Value.ownBlock] using e
    subst this
    unfold At at hC
    rw [hh] at hC
    injection hC with hC
    injection hC with _ h2
    exact ht h2.symm
/-- How an append changes an own slice. -/
structure App (w w1 : World) (v v' : Value) : Prop where
  size : w.heap.size ≤ w1.heap.size
  k : ∀ k, k < w.heap.size → v.ownBlock ≠ some k → w1.heap[k]? = w.heap[k]?
  b : v'.ownBlock = v.ownBlock ∨ ∃ g, v'.ownBlock = some g ∧ w.heap.size ≤ g
theorem own_none {e : TypeId} {z : Nat} (w : World) (B : Nat) (hB : B ≤ w.heap.size) : (w.alloc (.cells #[] e)).ownsRow B e z (.slice (some ⟨w.heap.size, 0, none⟩) 0 0) 0 [] := World.ownsRow_made w #[] 0 hB (Nat.zero_le _) (by simp)
theorem App.after {w w0 w1 : World} {v v' : Value} (h : App w0 w1 v v') (hb : Below w.heap.size w w0) : App w w1 v v' :=
  ⟨Nat.le_trans hb.size h.size, fun k hk hn => (h.k k (Nat.lt_of_lt_of_le hk hb.size) hn).trans (hb.block k hk), h.b.imp id fun ⟨g, e, hg⟩ => ⟨g, e, Nat.le_trans hb.size hg⟩⟩
theorem App.chg {F : Foot} {w w1 : World} {v v' : Value} (h : App w w1 v v') (hb : Below 0 w w1) (hF : ∀ k, v.ownBlock = some k → F k) : Chg F w w1 :=
  ⟨hb.os, hb.tape, hb.output, h.size, fun k hk hn => h.k k hk fun e => hn (hF k e)⟩
theorem at_appd {w w1 : World} {b : Nat} {C : Array Value} {t : TypeId} {v v' : Value} (h : At w b C t) (ha : App w w1 v v') (hne : v.ownBlock ≠ some b) : At w1 b C t := Sha.At.app h ha.k hne
section
variable {P : Program} {w : World} {B : Nat} {e : TypeId} {v : Value} {xs : List Value}
theorem run_append_app {t ty : TypeId} {zv vx : Value} {n m z : Nat} {ys : List Value} {bytes : Nat} (he : elemR P t e zv z bytes) (hzv : zv.cells.size = z) (hz0 : 0 < z) (hown : w.ownsRow B e z v n xs) (hrd : RdR w z vx m ys) (h1 : ∀ u ∈ ys, u.oneCell' = true) (hlen : (n + m) * bytes ≤ 140737488355328) (hl2 : n + m < 140737488355328) (hB : B ≤ w.heap.size) :
    ∃ v' w', (Builtin.append_ #[t, t] ty #[v, vx]).run P w = .ok v' w' ∧ w'.ownsRow B e z v' (n + m) (xs ++ ys) ∧ App w w' v v' ∧ Below B w w' := by
  obtain ⟨i0, hi, hzz, hs, hb⟩ := info_parts he.2
  obtain ⟨hyl, a0, cap, rfl, hr⟩ := hrd
  have hml : 140737488355328 ≤ maxLen := by simp [maxLen]
  have hlt : ∀ g, v.ownBlock = some g → B ≤ g := fun g hg => (World.ownsRow.lt hown g hg).1
  have fin : ∀ {v' : Value} {w' : World}, w.grownBy w' v.ownBlock → (v'.ownBlock = v.ownBlock ∨ v'.ownBlock = some w.heap.size) → App w w' v v' ∧ Below B w w' := fun h3 h5 =>
    ⟨⟨h3.size, fun k hk hne => h3.block k hk (fun e => hne e.symm), h5.imp id fun h => ⟨_, h, Nat.le_refl _⟩⟩, (Below.refl _ _).grown h3 hB hlt⟩
  by_cases hne : m = 0
  · subst hne
    have hys : ys = [] := List.eq_nil_of_length_eq_zero (by simpa using hyl)
    subst hys
    cases a0 with
    | none =>
      refine ⟨v, w, ?_, by simpa using hown, fin (World.grownBy.refl w _) (.inl rfl)⟩
      rcases hown.2 with ⟨rfl, rfl⟩ | ⟨g, cap', cur, rfl, _, _, hn, _⟩
      · simp [Builtin.append_, run_underlying he.1, sizeOf, typeInfo, hi, Builtin.lenOf, Builtin.firstCells]
      · simp [Builtin.append_, run_underlying he.1, sizeOf, typeInfo, hi, Builtin.lenOf, Builtin.firstCells, hn, storeCells]
    | some ad =>
      obtain ⟨v', w', hrun, h2, h3, _, h5⟩ := run_append_own_at (P := P) w B t ty e i0 zv z bytes he.1 hi hzz hs hb hzv hz0 v n xs hown ad 0 cap [] (by simp) (fun j u hu => by simp at hu) (fun u hu => by simp at hu) (by omega) (by simpa using hlen) hB
      exact ⟨v', w', hrun, h2, fin h3 h5⟩
  · obtain ⟨ad, rfl, hc⟩ := hr hne
    obtain ⟨v', w', hrun, h2, h3, _, h5⟩ := run_append_own_at (P := P) w B t ty e i0 zv z bytes he.1 hi hzz hs hb hzv hz0 v n xs hown ad m cap ys hyl hc h1 (by omega) hlen hB
    exact ⟨v', w', hrun, h2, fin h3 h5⟩
theorem wpList_append_app {ops : Array Oper} {rest : List Oper} {o : Oper} {a : Act} {Q : Exit → Act → World → Prop} (hgd : o.guard = none) (s x : Operand) (t : TypeId) (ho : o.op = .call { callee := .builtin .append, args := #[s, x], argTypes := #[t, t] })
    (vx : Value) (n m z : Nat) (ys : List Value) (zv : Value) (bytes : Nat) (he : elemR P t e zv z bytes) (hzv : zv.cells.size = z) (hz0 : 0 < z) (hs : a.eval s = v) (hown : w.ownsRow B e z v n xs) (hx : a.eval x = vx) (hrd : RdR w z vx m ys) (h1 : ∀ u ∈ ys, u.oneCell' = true) (hlen : (n + m) * bytes ≤ 140737488355328) (hl2 : n + m < 140737488355328) (hB : B ≤ w.heap.size)
    (h : ∀ v' w', w'.ownsRow B e z v' (n + m) (xs ++ ys) → App w w' v v' → Below B w w' → wpList P ops Q rest (a.put o.dst v') w') :
    wpList P ops Q (o :: rest) a w := by
  refine wpList_plain hgd fun K hK => ?_
  obtain ⟨v', w', hrun, h2, h3, h4⟩ := run_append_app (P := P) (ty := o.type) he hzv hz0 hown hrd h1 hlen hl2 hB
  unfold Oper.wp execOp
  simp only [ho, resolve, invoke, builtin, Sem.run_bind, Sem.run_pure, Result.andThen_ok, List.map_toArray, List.map_cons, List.map_nil, hs, hx, hrun]
  exact hK _ _ (h v' w' h2 h3 h4)
theorem plan_append_app {ops : Array Oper} {o : Oper} {a : Act} {Q : Exit → Act → World → Prop} {S : World → Prop} {i : Nat} {r : Plan} (s x : Operand) (t : TypeId) (ho : ops.toList[i]? = some o) (hw : Region.wanted o (yielded ops a.tmps) = true) (hop : o.op = .call { callee := .builtin .append, args := #[s, x], argTypes := #[t, t] })
    (vx : Value) (n m z : Nat) (ys : List Value) (zv : Value) (bytes : Nat) (he : elemR P t e zv z bytes) (hzv : zv.cells.size = z) (hz0 : 0 < z) (hs : a.eval s = v) (hown : w.ownsRow B e z v n xs) (hx : a.eval x = vx) (hrd : RdR w z vx m ys) (h1 : ∀ u ∈ ys, u.oneCell' = true) (hlen : (n + m) * bytes ≤ 140737488355328) (hl2 : n + m < 140737488355328) (hB : B ≤ w.heap.size)
    (h : ∀ v' w', w'.ownsRow B e z v' (n + m) (xs ++ ys) → App w w' v v' → Below B w w' → S w' ∧ wpPlan P ops Q S r (a.put o.dst v') w') :
    wpPlan P ops Q S (.sole i r) a w := by
  refine wpOp_at ho hw ?_
  obtain ⟨v', w', hrun, h2, h3, h4⟩ := run_append_app (P := P) (ty := o.type) he hzv hz0 hown hrd h1 hlen hl2 hB
  unfold Oper.wp execOp
  simp only [hop, resolve, invoke, builtin, Sem.run_bind, Sem.run_pure, Result.andThen_ok, List.map_toArray, List.map_cons, List.map_nil, hs, hx, hrun]
  exact h v' w' h2 h3 h4
end
theorem ownsRow_base0 {w : World} {B : Nat} {e : TypeId} {z n : Nat} {v : Value} {xs : List Value} (h : w.ownsRow B e z v n xs) : w.ownsRow 0 e z v n xs := ownsRow_base h (Nat.zero_le _)
theorem rows_hd {w : World} {B : Nat} {e : TypeId} {z n : Nat} {v : Value} {xs : List Value} (h : w.ownsRow B e z v n xs) : ∃ a c, v = .slice a n c := by
  obtain ⟨_, a, c, e, _⟩ := ownsRow_slR h
  exact ⟨a, c, e⟩
end Sha
end Go.Proofs.Ytfbhbdllbapnpaa
namespace Go.Proofs.Ytfbhbdllbapnpaa
namespace Mem
open Go.RowKit
section
variable {P : Program} {ops : Array Oper} {Q : Exit → Act → World → Prop} {S : World → Prop} {w : World} {a : Act} {o : Oper} {i : Nat} {r : Plan}
theorem plan_nilcheck (x : Operand) (p : Addr) (ho : ops.toList[i]? = some o) (hw : Region.wanted o (yielded ops a.tmps) = true) (hop : o.op = .nilCheck x) (hx : a.eval x = .pointer (some p))
    (h : wpPlan P ops Q S r (a.put o.dst (.pointer (some p))) w) : wpPlan P ops Q S (.take i r) a w :=
  plan_take _ ho hw (fun w' _ => by simp [execOp, hop, hx]) h
/-- The address of a slice's element of z cells. -/
theorem plan_index_z (t e : TypeId) (x ix : Operand) (g off n c z : Nat) (k : Nat) (ho : ops.toList[i]? = some o) (hw : Region.wanted o (yielded ops a.tmps) = true) (hop : o.op = .indexAddr t x ix)
    (hx : a.eval x = .slice (some ⟨g, off, none⟩) n c) (hi : a.eval ix = .int .i64 (k : Int)) (hk : k < n) (hu : P.underlying t = some (.slice e)) (hs : (P.info? e).map (·.size) = some z)
    (h : wpPlan P ops Q S r (a.put o.dst (.pointer (some ⟨g, off + k * z, none⟩))) w) : wpPlan P ops Q S (.take i r) a w :=
  plan_take _ ho hw (fun w' _ => by
    cases hq : P.info? e with
    | none => simp [hq] at hs
    | some q =>
      have hs1 : q.size = z := by simpa [hq] using hs
      simp [execOp, hop, hx, hi, Instr.indexAt, asIntOf, Sem.run_bind, run_underlying hu, sizeOf, typeInfo, hq, hs1, hk, Addr.add]) h
/-- What reads the world at hand, where it comes up alone. -/
theorem plan_sole_val (v : Value) (ho : ops.toList[i]? = some o) (hw : Region.wanted o (yielded ops a.tmps) = true) (hv : (execOp a.eval o).run P w = .ok (.value v) w) (hS : S w)
    (h : wpPlan P ops Q S r (a.put o.dst v) w) : wpPlan P ops Q S (.sole i r) a w := by
  refine wpOp_at ho hw ?_
  unfold Oper.wp
  rw [hv]
  exact ⟨hS, h⟩
/-- .. one cell's load. -/
theorem plan_sole_cell (t : TypeId) (x : Operand) (p : Addr) (v : Value) (d : TypeDesc) (ho : ops.toList[i]? = some o) (hw : Region.wanted o (yielded ops a.tmps) = true) (hop : o.op = .load t x)
    (hx : a.eval x = .pointer (some p)) (hc : w.cell? p = some v) (hu : P.underlying t = some d) (hd : d.isRow = false) (hS : S w)
    (h : wpPlan P ops Q S r (a.put o.dst v) w) : wpPlan P ops Q S (.sole i r) a w :=
  plan_sole_val v ho hw (by
    have hagg : (isAgg t).run P w = .ok false w := by
      unfold isAgg
      rw [Sem.run_bind, run_underlying hu w]
      cases d <;> simp_all
    simp [execOp, hop, hx, Instr.loadAt, Instr.sureAddr, loadVar, Sem.run_bind, hagg, hc]) hS h
end
/-- In a plan: a row read whose cells are known one by one. -/
theorem plan_load_range {P : Program} {ops : Array Oper} {Q : Exit → Act → World → Prop} {S : World → Prop} {w : World} {a : Act} {o : Oper} {i : Nat} {r : Plan} (ty : TypeId) (x : Operand) (b off : Nat) (d : TypeDesc) (R : Array Value) (ho : ops.toList[i]? = some o) (hw : Region.wanted o (yielded ops a.tmps) = true) (hop : o.op = .load ty x) (hx : a.eval x = .pointer (some ⟨b, off, none⟩))
    (hC : ∀ w', S w' → w'.rangeAt b off R.toList) (hu : P.underlying ty = some d) (hd : d.isRow = true) (hi : (P.info? ty).map (·.size) = some R.size) (h : wpPlan P ops Q S r (a.put o.dst (.agg R)) w) :
    wpPlan P ops Q S (.take i r) a w :=
  plan_take _ ho hw (fun w' hw' => by
    have hr := run_loadAt_mid (P := P) w' b off ty R.toList d (hC w' hw') hu hd (by rw [hi]; simp)
    unfold execOp
    simp only [hop, hx, Sem.run_bind, hr, Result.andThen_ok, Sem.run_pure]) h
theorem plan_not {P : Program} {ops : Array Oper} {Q : Exit → Act → World → Prop} {S : World → Prop} {w : World} {a : Act} {o : Oper} {i : Nat} {r : Plan} (t : TypeId) (x : Operand) (b : Bool) (ho : ops.toList[i]? = some o) (hw : Region.wanted o (yielded ops a.tmps) = true) (hop : o.op = .unOp .not t x)
    (hx : a.eval x = .bool b) (h : wpPlan P ops Q S r (a.put o.dst (.bool (!b))) w) : wpPlan P ops Q S (.take i r) a w :=
  plan_take _ ho hw (fun w' _ => by cases b <;> simp [execOp, hop, hx, Op.unary]) h
theorem plan_not_t {P : Program} {ops : Array Oper} {Q : Exit → Act → World → Prop} {S : World → Prop} {w : World} {a : Act} {o : Oper} {i : Nat} {r : Plan} (t : TypeId) (x : Operand) (ho : ops.toList[i]? = some o) (hw : Region.wanted o (yielded ops a.tmps) = true) (hop : o.op = .unOp .not t x)
    (hx : a.eval x = .bool true) (h : wpPlan P ops Q S r (a.put o.dst (.bool false)) w) : wpPlan P ops Q S (.take i r) a w := plan_not t x true ho hw hop hx h
/-- A part of a tuple. -/
theorem plan_extract {P : Program} {ops : Array Oper} {Q : Exit → Act → World → Prop} {S : World → Prop} {w : World} {a : Act} {o : Oper} {i : Nat} {r : Plan} (x : Operand) (k : Nat) (vs : Array Value) (v : Value) (ho : ops.toList[i]? = some o) (hw : Region.wanted o (yielded ops a.tmps) = true) (hop : o.op = .extract x k)
    (hx : a.eval x = .tuple vs) (hv : vs[k]? = some v) (h : wpPlan P ops Q S r (a.put o.dst v) w) : wpPlan P ops Q S (.take i r) a w :=
  plan_take v ho hw (fun w' _ => by simp [execOp, hop, hx, Instr.extract, hv]) h
end Mem
end Go.Proofs.Ytfbhbdllbapnpaa
namespace Go.Proofs.Ytfbhbdllbapnpaa
namespace Sha
open Go.RowKit Mem
/-- Are both the same? -/
def sameB (l m : List (BitVec 8)) : Bool := l == m
theorem sameB_self (l : List (BitVec 8)) : sameB l l = true := by simp [sameB]
theorem sameB_comm (l m : List (BitVec 8)) : sameB l m = sameB m l := by unfold sameB; rw [Bool.eq_iff_iff, beq_iff_eq, beq_iff_eq]; exact eq_comm
theorem sameB_len (l m : List (BitVec 8)) (h : l.length ≠ m.length) : sameB l m = false := by
  unfold sameB
  rw [Bool.eq_false_iff]
  intro e
  exact h (by rw [beq_iff_eq.1 e])
theorem B8_inj {x y : BitVec 8} (h : B8 x = B8 y) : x = y := by
  unfold B8 at h
  exact BitVec.eq_of_toNat_eq (by omega)
theorem sameB_at (l m : List (BitVec 8)) (j : Nat) (h : l.getD j 0 ≠ m.getD j 0) : sameB l m = false := by
  unfold sameB
  rw [Bool.eq_false_iff]
  intro e
  exact h (by rw [beq_iff_eq.1 e])
theorem take_next (l m : List (BitVec 8)) (j : Nat) (h1 : j < l.length) (h2 : j < m.length) (h : l.take j = m.take j) (hx : l.getD j 0 = m.getD j 0) : l.take (j + 1) = m.take (j + 1) := by
  have e1 : l.getD j 0 = l[j] := by simp [h1]
  have e2 : m.getD j 0 = m[j] := by simp [h2]
  rw [List.take_succ_eq_append_getElem h1, List.take_succ_eq_append_getElem h2, h, ← e1, ← e2, hx]
end Sha
end Go.Proofs.Ytfbhbdllbapnpaa
namespace Go.Proofs.Ytfbhbdllbapnpaa
namespace Sha
open Go.RowKit Mem
/-- Where a piece begins. -/
def pieceA (a : Option Addr) (cap i : Nat) : Option Addr := if cap = i then a else a.map (·.add i)
theorem sl_piece {w : World} {a : Option Addr} {cap i j : Nat} {l : List (BitVec 8)} (h : Sl w (.slice a l.length cap) l) (hi : i ≤ j) (hj : j ≤ l.length) : Sl w (.slice (pieceA a cap i) (j - i) (cap - i)) ((l.drop i).take (j - i)) := by
  obtain ⟨a', cap', e, hcap, hr⟩ := h
  injection e with e1 _ e3
  subst e1; subst e3
  have hl : ((l.drop i).take (j - i)).length = j - i := by rw [List.length_take, List.length_drop]; omega
  refine ⟨_, _, by rw [hl], by rw [hl]; omega, fun hne => ?_⟩
  have hij : i < j := by
    rcases Nat.lt_or_ge i j with h | h
    · exact h
    · rw [show j - i = 0 by omega, List.take_zero] at hne
      exact absurd rfl hne
  obtain ⟨bb, oo, rfl, hlt, hc⟩ := hr (by intro h0; rw [h0] at hj; simp at hj; omega)
  refine ⟨bb, oo + i, by rw [pieceA, if_neg (by omega)]; simp [Addr.add_mid], hlt, fun k hk => ?_⟩
  rw [hl] at hk
  rw [Nat.add_assoc, hc (i + k) (by omega)]
  simp [List.getD_eq_getElem?_getD, hk]
section
variable {ops : Array Oper} {rest : List Oper} {o : Oper} {a : Act} {w : World} {Q : Exit → Act → World → Prop}
theorem slice_run (ty : TypeId) (e : TypeId) (hu : Try.prog.underlying ty = some (.slice e)) (hs : (Try.prog.info? e).map (·.size) = some 1) (a0 : Option Addr) (len cap i j : Nat) (hij : i ≤ j) (hj : j ≤ len) (hc : len ≤ cap) (w : World) :
    (Instr.sliceAt ty (.slice a0 len cap) (some (.int .i64 (i : Int))) (some (.int .i64 (j : Int))) none).run Try.prog w = .ok (.slice (pieceA a0 cap i) (j - i) (cap - i)) w ∧
    (Instr.sliceAt ty (.slice a0 len cap) none (some (.int .i64 (j : Int))) none).run Try.prog w = .ok (.slice (pieceA a0 cap 0) j cap) w ∧
    (Instr.sliceAt ty (.slice a0 len cap) (some (.int .i64 (i : Int))) none none).run Try.prog w = .ok (.slice (pieceA a0 cap i) (len - i) (cap - i)) w := by
  cases hq : Try.prog.info? e with
  | none => simp [hq] at hs
  | some q =>
    have hs1 : q.size = 1 := by simpa [hq] using hs
    have hjc : j ≤ cap := by omega
    have hil : i ≤ len := by omega
    refine ⟨?_, ?_, ?_⟩ <;> simp [Instr.sliceAt, Instr.slice, Instr.sliceBounds, Instr.sliceBound, asIntOf, Sem.run_bind, run_underlying hu, sizeOf, typeInfo, hq, hs1, hij, hjc, hil, pieceA]
theorem wpList_piece (hw : Region.wanted o (yielded ops a.tmps) = true) (ty : TypeId) (x i j : Operand) (ho : o.op = .slice ty x (some i) (some j) none) (hu : Try.prog.underlying ty = some (.slice 5)) (a0 : Option Addr) (len cap k m : Nat) (l : List (BitVec 8)) (hl : l.length = len)
    (hx : a.eval x = .slice a0 len cap) (hv : Sl w (.slice a0 len cap) l) (hi : a.eval i = .int .i64 (k : Int)) (hj : a.eval j = .int .i64 (m : Int)) (hk : k ≤ m) (hm : m ≤ len)
    (h : Sl w (.slice (pieceA a0 cap k) (m - k) (cap - k)) ((l.drop k).take (m - k)) → wpList Try.prog ops Q rest (a.put o.dst (.slice (pieceA a0 cap k) (m - k) (cap - k))) w) : wpList Try.prog ops Q (o :: rest) a w := by
  subst hl
  have hcap : l.length ≤ cap := by obtain ⟨_, _, e, hc, _⟩ := hv; injection e with _ _ e3; omega
  have hr := (slice_run ty 5 hu infoB a0 l.length cap k m hk hm hcap w).1
  unfold wpList
  rw [if_pos hw]
  left
  unfold Oper.wp
  have : (execOp a.eval o).run Try.prog w = .ok (.value (.slice (pieceA a0 cap k) (m - k) (cap - k))) w := by
    unfold execOp
    simp only [ho, hx, hi, hj, Option.map_some, Option.map_none, Sem.run_bind, hr, Result.andThen_ok, Sem.run_pure]
  rw [this]
  exact h (sl_piece hv hk hm)
theorem wpList_piece_to (hw : Region.wanted o (yielded ops a.tmps) = true) (ty : TypeId) (x j : Operand) (ho : o.op = .slice ty x none (some j) none) (hu : Try.prog.underlying ty = some (.slice 5)) (a0 : Option Addr) (len cap m : Nat) (l : List (BitVec 8)) (hl : l.length = len)
    (hx : a.eval x = .slice a0 len cap) (hv : Sl w (.slice a0 len cap) l) (hj : a.eval j = .int .i64 (m : Int)) (hm : m ≤ len)
    (h : Sl w (.slice (pieceA a0 cap 0) m cap) (l.take m) → wpList Try.prog ops Q rest (a.put o.dst (.slice (pieceA a0 cap 0) m cap)) w) : wpList Try.prog ops Q (o :: rest) a w := by
  subst hl
  have hcap : l.length ≤ cap := by obtain ⟨_, _, e, hc, _⟩ := hv; injection e with _ _ e3; omega
  have hr := (slice_run ty 5 hu infoB a0 l.length cap 0 m (Nat.zero_le _) hm hcap w).2.1
  unfold wpList
  rw [if_pos hw]
  left
  unfold Oper.wp
  have : (execOp a.eval o).run Try.prog w = .ok (.value (.slice (pieceA a0 cap 0) m cap)) w := by
    unfold execOp
    simp only [ho, hx, hj, Option.map_some, Option.map_none, Sem.run_bind, hr, Result.andThen_ok, Sem.run_pure]
  rw [this]
  have h1 := sl_piece hv (Nat.zero_le m) hm
  rw [Nat.sub_zero, Nat.sub_zero, List.drop_zero] at h1
  exact h h1
theorem wpList_piece_from (hw : Region.wanted o (yielded ops a.tmps) = true) (ty : TypeId) (x i : Operand) (ho : o.op = .slice ty x (some i) none none) (hu : Try.prog.underlying ty = some (.slice 5)) (a0 : Option Addr) (len cap k : Nat) (l : List (BitVec 8)) (hl : l.length = len)
    (hx : a.eval x = .slice a0 len cap) (hv : Sl w (.slice a0 len cap) l) (hi : a.eval i = .int .i64 (k : Int)) (hk : k ≤ len)
    (h : Sl w (.slice (pieceA a0 cap k) (len - k) (cap - k)) (l.drop k) → wpList Try.prog ops Q rest (a.put o.dst (.slice (pieceA a0 cap k) (len - k) (cap - k))) w) : wpList Try.prog ops Q (o :: rest) a w := by
  subst hl
  have hcap : l.length ≤ cap := by obtain ⟨_, _, e, hc, _⟩ := hv; injection e with _ _ e3; omega
  have hr := (slice_run ty 5 hu infoB a0 l.length cap k l.length hk (Nat.le_refl _) hcap w).2.2
  unfold wpList
  rw [if_pos hw]
  left
  unfold Oper.wp
  have : (execOp a.eval o).run Try.prog w = .ok (.value (.slice (pieceA a0 cap k) (l.length - k) (cap - k))) w := by
    unfold execOp
    simp only [ho, hx, hi, Option.map_some, Option.map_none, Sem.run_bind, hr, Result.andThen_ok, Sem.run_pure]
  rw [this]
  have h1 := sl_piece hv hk (Nat.le_refl _)
  rw [List.take_of_length_le (by rw [List.length_drop]; omega)] at h1
  exact h h1
end
end Sha
end Go.Proofs.Ytfbhbdllbapnpaa
namespace Go.Proofs.Ytfbhbdllbapnpaa
namespace Sha
open Go.RowKit Mem
/-- A conversion in a plain region. -/
theorem wpList_conv {P : Program} {ops : Array Oper} {rest : List Oper} {o : Oper} {a : Act} {w : World} {Q : Exit → Act → World → Prop} (hw : Region.wanted o (yielded ops a.tmps) = true) (t1 t2 : TypeId) (x : Operand) (vx v : Value)
    (hop : o.op = .convert t1 t2 x) (hx : a.eval x = vx) (hv : ∀ w', (convert t1 t2 vx).run P w' = .ok v w') (h : wpList P ops Q rest (a.put o.dst v) w) : wpList P ops Q (o :: rest) a w := by
  unfold wpList
  rw [if_pos hw]
  left
  unfold Oper.wp
  have : (execOp a.eval o).run P w = .ok (.value v) w := by
    have := hv w
    simp only [execOp, hop, hx]
    rw [Sem.run_bind, this]; rfl
  rw [this]
  exact h
end Sha
end Go.Proofs.Ytfbhbdllbapnpaa
namespace Go.Proofs.Ytfbhbdllbapnpaa
namespace Sha
open Go.RowKit Mem
/-- copy of 32 bytes, or of none, into a row, where it comes up alone. -/
theorem plan_copy_row {ops : Array Oper} {Q : Exit → Act → World → Prop} {S : World → Prop} {w : World} {a : Act} {o : Oper} {i : Nat} {r : Plan} (x y : Operand) (ho : ops.toList[i]? = some o) (hw : Region.wanted o (yielded ops a.tmps) = true)
    (hop : o.op = .call { callee := .builtin .copy, args := #[x, y], argTypes := #[24, 24] }) (g p : Nat) (C : Array Value) (t : TypeId) (vy : Value) (l : List (BitVec 8)) (hx : a.eval x = .slice (some ⟨g, p, none⟩) 32 32) (hy : a.eval y = vy) (hl : Sl w vy l) (h32 : l = [] ∨ l.length = 32)
    (hC : At w g C t) (hfit : p + 32 ≤ C.size) (C' : Array Value) (hC' : (if l = [] then C else (C.toList.take p ++ u8s l ++ C.toList.drop (p + 32)).toArray) = C')
    (h : ∀ n w', At w' g C' t → (∀ k, k ≠ g → w'.heap[k]? = w.heap[k]?) → (∀ B a, Below B a w → B ≤ g → Below B a w') → S w' ∧ wpPlan Try.prog ops Q S r (a.put o.dst n) w') : wpPlan Try.prog ops Q S (.sole i r) a w := by
  obtain ⟨a0, cap, rfl, _, hr⟩ := hl
  refine wpOp_at ho hw ?_
  unfold Oper.wp execOp
  by_cases hne : l = []
  · subst hne
    rw [if_pos rfl] at hC'
    subst hC'
    have hrun := run_copy_none (P := Try.prog) w 24 24 o.type 5 (some ⟨g, p, none⟩) a0 32 32 0 cap Try.underlying24 infoB (by simp)
    simp only [hop, resolve, invoke, builtin, Sem.run_bind, Sem.run_pure, Result.andThen_ok, List.map_toArray, List.map_cons, List.map_nil, hx, hy, List.length_nil, hrun]
    exact h _ _ hC (fun _ _ => rfl) (fun _ _ hb _ => hb)
  · rw [if_neg hne] at hC'
    have hl32 : l.length = 32 := by rcases h32 with h | h; exact absurd h hne; exact h
    obtain ⟨bb, oo, rfl, _, hc⟩ := hr hne
    have hrun := run_copy_row (P := Try.prog) w 24 24 o.type 5 g p 32 32 ⟨bb, oo, none⟩ l.length cap C t (u8s l) Try.underlying24 infoB hC (by rw [u8s_length, hl32]; rfl) (fun j v hj => by
      have hjk : j < l.length := by
        have := (List.getElem?_eq_some_iff.1 hj).1
        rwa [u8s_length] at this
      rw [Addr.add_mid, hc j hjk, ← hj, u8s_get _ _ hjk]) (by rw [u8s_length, hl32]; exact hfit) (u8s_cells l)
    have e : (u8s l).length = 32 := by rw [u8s_length]; exact hl32
    rw [e, hC'] at hrun
    simp only [hop, resolve, invoke, builtin, Sem.run_bind, Sem.run_pure, Result.andThen_ok, List.map_toArray, List.map_cons, List.map_nil, hx, hy, hrun]
    exact h _ _ (hC.row _) (fun k hk => setRow_other w g k _ hk) (fun B a hb hB => below_row hb hB _)
/-- copy of N bytes, or of none, into a row, where it comes up alone. -/
theorem plan_copy_rown (N : Nat) {ops : Array Oper} {Q : Exit → Act → World → Prop} {S : World → Prop} {w : World} {a : Act} {o : Oper} {i : Nat} {r : Plan} (x y : Operand) (ho : ops.toList[i]? = some o) (hw : Region.wanted o (yielded ops a.tmps) = true)
    (hop : o.op = .call { callee := .builtin .copy, args := #[x, y], argTypes := #[24, 24] }) (g p : Nat) (C : Array Value) (t : TypeId) (vy : Value) (l : List (BitVec 8)) (hx : a.eval x = .slice (some ⟨g, p, none⟩) N N) (hy : a.eval y = vy) (hl : Sl w vy l) (h32 : l = [] ∨ l.length = N)
    (hC : At w g C t) (hfit : p + N ≤ C.size) (C' : Array Value) (hC' : (if l = [] then C else (C.toList.take p ++ u8s l ++ C.toList.drop (p + N)).toArray) = C')
    (h : ∀ n w', At w' g C' t → (∀ k, k ≠ g → w'.heap[k]? = w.heap[k]?) → (∀ B a, Below B a w → B ≤ g → Below B a w') → S w' ∧ wpPlan Try.prog ops Q S r (a.put o.dst n) w') : wpPlan Try.prog ops Q S (.sole i r) a w := by
  obtain ⟨a0, cap, rfl, _, hr⟩ := hl
  refine wpOp_at ho hw ?_
  unfold Oper.wp execOp
  by_cases hne : l = []
  · subst hne
    rw [if_pos rfl] at hC'
    subst hC'
    have hrun := run_copy_none (P := Try.prog) w 24 24 o.type 5 (some ⟨g, p, none⟩) a0 N N 0 cap Try.underlying24 infoB (by simp)
    simp only [hop, resolve, invoke, builtin, Sem.run_bind, Sem.run_pure, Result.andThen_ok, List.map_toArray, List.map_cons, List.map_nil, hx, hy, List.length_nil, hrun]
    exact h _ _ hC (fun _ _ => rfl) (fun _ _ hb _ => hb)
  · rw [if_neg hne] at hC'
    have hl32 : l.length = N := by rcases h32 with h | h; exact absurd h hne; exact h
    obtain ⟨bb, oo, rfl, _, hc⟩ := hr hne
    have hrun := run_copy_row (P := Try.prog) w 24 24 o.type 5 g p N N ⟨bb, oo, none⟩ l.length cap C t (u8s l) Try.underlying24 infoB hC (by rw [u8s_length, hl32]; exact (Nat.min_self N).symm) (fun j v hj => by
      have hjk : j < l.length := by
        have := (List.getElem?_eq_some_iff.1 hj).1
        rwa [u8s_length] at this
      rw [Addr.add_mid, hc j hjk, ← hj, u8s_get _ _ hjk]) (by rw [u8s_length, hl32]; exact hfit) (u8s_cells l)
    have e : (u8s l).length = N := by rw [u8s_length]; exact hl32
    rw [e, hC'] at hrun
    simp only [hop, resolve, invoke, builtin, Sem.run_bind, Sem.run_pure, Result.andThen_ok, List.map_toArray, List.map_cons, List.map_nil, hx, hy, hrun]
    exact h _ _ (hC.row _) (fun k hk => setRow_other w g k _ hk) (fun B a hb hB => below_row hb hB _)
end Sha
end Go.Proofs.Ytfbhbdllbapnpaa
