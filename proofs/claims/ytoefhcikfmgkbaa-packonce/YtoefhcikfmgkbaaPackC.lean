/- What the laws of layer 5 ask of the program: its contracts, over any account R of its reader. -/
import Derived.Test.YtoefhcikfmgkbaaPackRd2
namespace Go.Proofs.Ytoefhcikfmgkbaa
namespace Sha
open Go.RowKit Mem
/-- An account of the program's reader: in this world, at this block, these bytes are left and this is its error. -/
abbrev RdAcc := World → Nat → List (BitVec 8) → Nat → Prop
/-- How a method of the program's reader ends. -/
structure PEnd (R : RdAcc) (w : World) (br : Nat) (b : List (BitVec 8)) (e : Nat) (w' : World) : Prop where
  r : R w' br b e
  o : But br w w'
  k : ∀ B x, Below B x w → B ≤ br → Below B x w'
abbrev rp (br : Nat) : Value := .pointer (some ⟨br, 0, none⟩)
structure PackC (R : RdAcc) : Prop where
  below : ∀ {w w' : World} {br : Nat} {b : List (BitVec 8)} {e : Nat}, R w br b e → Below w.heap.size w w' → R w' br b e
  but : ∀ {w w' : World} {br bx : Nat} {b : List (BitVec 8)} {e : Nat} {C : Array Value}, R w br b e → At w bx C 41 → (∀ (k : Nat) (x : Int), C[k]? ≠ some (.int .u8 x)) → br ≠ bx → But bx w w' → R w' br b e
  keep : ∀ {w w' : World} {br : Nat} {b l : List (BitVec 8)} {e : Nat} {v : Value}, R w br b e → But br w w' → Sl w v l → Sl w' v l
  lt : ∀ {w : World} {br : Nat} {b : List (BitVec 8)} {e : Nat}, R w br b e → br < w.heap.size
  num : ∀ (b : List (BitVec 8)) (n : Nat) (size : Int) (v : Value) (w : World), Sl w v b → b.length ≤ 8000 → n < 18446744073709551616 → -1000 ≤ size → size ≤ 1000 →
    Calls Try.prog 14 #[v, .int .u64 (n : Int), .int .i64 size] w (RSEnd w (b ++ nbytes n (cutN size 1 8)))
  textBad : ∀ (b s : List (BitVec 8)) (place : Nat) (v u : Value) (w : World), Sl w v b → Sl w u s → b.length ≤ 8000 → s.length ≤ 9223372036854775807 → place ≤ 1000 → (place < 1 ∨ 255 < place ∨ place < s.length) →
    Calls Try.prog 9 #[v, u, .int .i64 (place : Int)] w (TwoEnd w [] 1)
  text : ∀ (b s : List (BitVec 8)) (place : Nat) (v u : Value) (w : World), Sl w v b → Sl w u s → b.length ≤ 8000 → 1 ≤ place → place ≤ 255 → s.length ≤ place →
    Calls Try.prog 9 #[v, u, .int .i64 (place : Int)] w (TwoEnd w (b ++ textB s place) 0)
  fillBad : ∀ (b : List (BitVec 8)) (size : Nat) (v : Value) (w : World), Sl w v b → b.length ≤ 8000 → size < b.length → Calls Try.prog 11 #[v, .int .i64 (size : Int)] w (TwoEnd w [] 1)
  fill : ∀ (b : List (BitVec 8)) (size : Nat) (v : Value) (w : World), Sl w v b → b.length ≤ size → size ≤ 8000 → Calls Try.prog 11 #[v, .int .i64 (size : Int)] w (TwoEnd w (fillB b size) 0)
  read : ∀ (b : List (BitVec 8)) (v : Value) (w : World), Sl w v b → b.length ≤ 8000 →
    Calls Try.prog 16 #[v] w fun o w' => ∃ br, o = .returned (rp br) ∧ w.heap.size ≤ br ∧ R w' br b 0 ∧ Below w.heap.size w w'
  pnum : ∀ (b : List (BitVec 8)) (e : Nat) (size : Int) (most : Nat) (br : Nat) (w : World), R w br b e → b.length ≤ 8000 → e ≤ 100 → -9223372036854775808 ≤ size → size ≤ 9223372036854775807 → most < 18446744073709551616 →
    Calls Try.prog 18 #[rp br, .int .i64 size, .int .u64 (most : Int)] w fun o w' => o = .returned (.int .u64 (((rdNum b e (cutN size 1 8) most).1 : Nat) : Int)) ∧ PEnd R w br (rdNum b e (cutN size 1 8) most).2.1 (rdNum b e (cutN size 1 8) most).2.2 w'
  ptext : ∀ (b : List (BitVec 8)) (e : Nat) (place : Int) (br : Nat) (w : World), R w br b e → b.length ≤ 8000 → e ≤ 100 → -9223372036854775808 ≤ place → place ≤ 9223372036854775807 →
    Calls Try.prog 20 #[rp br, .int .i64 place] w fun o w' => ∃ v, o = .returned v ∧ Sl w' v (rdText b e (cutN place 1 255)).x ∧ PEnd R w br (rdText b e (cutN place 1 255)).b (rdText b e (cutN place 1 255)).e w'
  pbytes : ∀ (b : List (BitVec 8)) (e : Nat) (z : Int) (br : Nat) (w : World), R w br b e → b.length ≤ 8000 → e ≤ 100 → -9223372036854775808 ≤ z → z ≤ 9223372036854775807 →
    Calls Try.prog 22 #[rp br, .int .i64 z] w fun o w' => ∃ v, o = .returned v ∧ Sl w' v (rdTake b e z.toNat).x ∧ PEnd R w br (rdTake b e z.toNat).b (rdTake b e z.toNat).e w'
  prest : ∀ (b : List (BitVec 8)) (e : Nat) (br : Nat) (w : World), R w br b e → b.length ≤ 8000 → e ≤ 100 →
    Calls Try.prog 24 #[rp br] w fun o w' => o = .returned (.int .i64 ((rdRest b e : Nat) : Int)) ∧ PEnd R w br b (rdRest b e) w'
  perr : ∀ (b : List (BitVec 8)) (e : Nat) (br : Nat) (w : World), R w br b e → b.length ≤ 8000 → e ≤ 100 →
    Calls Try.prog 26 #[rp br] w fun o w' => o = .returned (.int .i64 (e : Int)) ∧ PEnd R w br b e w'
  pleft : ∀ (b : List (BitVec 8)) (e : Nat) (br : Nat) (w : World), R w br b e → b.length ≤ 8000 → e ≤ 100 →
    Calls Try.prog 27 #[rp br] w fun o w' => o = .returned (.int .i64 ((rdLeft b e : Nat) : Int)) ∧ PEnd R w br b e w'
  nnum : ∀ w, Calls Try.prog 18 #[.pointer none, .int .i64 1, .int .u64 5] w fun o w' => o = .returned (.int .u64 0) ∧ Below w.heap.size w w'
  ntext : ∀ w, Calls Try.prog 20 #[.pointer none, .int .i64 1] w (RSEnd w [])
  nbytes : ∀ w, Calls Try.prog 22 #[.pointer none, .int .i64 1] w (RSEnd w [])
  nrest : ∀ w, Calls Try.prog 24 #[.pointer none] w fun o w' => o = .returned (.int .i64 2) ∧ Below w.heap.size w w'
  nerr : ∀ w, Calls Try.prog 26 #[.pointer none] w fun o w' => o = .returned (.int .i64 2) ∧ Below w.heap.size w w'
  nleft : ∀ w, Calls Try.prog 27 #[.pointer none] w fun o w' => o = .returned (.int .i64 0) ∧ Below w.heap.size w w'
theorem PEnd.trans {R : RdAcc} {w w1 w2 : World} {br : Nat} {b1 b2 : List (BitVec 8)} {e1 e2 : Nat} (h : PEnd R w br b1 e1 w1) (k : PEnd R w1 br b2 e2 w2) : PEnd R w br b2 e2 w2 :=
  ⟨k.r, But.same h.o k.o, fun B x hB hle => k.k B x (h.k B x hB hle) hle⟩
end Sha
end Go.Proofs.Ytoefhcikfmgkbaa
