/- What a reader's box is, and how its methods end. -/
import Derived.Test.YtknaimpnkflfnaaPackMath
import Derived.Test.YtknaimpnkflfnaaSlice
import Derived.Test.YtknaimpnkflfnaaEnds
import Derived.Laws.BitsAllLaws
import Derived.Lib.SliceRun
namespace Go.Proofs.Ytknaimpnkflfnaa
namespace Sha
open Go.RowKit Mem
def fillB (b : List (BitVec 8)) (size : Nat) : List (BitVec 8) := b ++ List.replicate (size - b.length) 0
/-- A slice of bytes lies in no block whose cells are no bytes. -/
theorem Sl.but_at {w w' : World} {v : Value} {l : List (BitVec 8)} {br : Nat} {C : Array Value} {t : TypeId} (h : Sl w v l) (hC : At w br C t) (hno : ∀ (k : Nat) (x : Int), C[k]? ≠ some (.int .u8 x)) (hb : But br w w') : Sl w' v l := by
  obtain ⟨a, cap, rfl, hc, hr⟩ := h
  refine ⟨a, cap, rfl, hc, fun hne => ?_⟩
  obtain ⟨bb, oo, rfl, hlt, hcell⟩ := hr hne
  have h0 : 0 < l.length := List.length_pos_iff.2 hne
  have hbn : bb ≠ br := by
    rintro rfl
    have h1 := hcell 0 h0
    rw [hC.cell] at h1
    exact hno _ _ h1
  refine ⟨bb, oo, rfl, Nat.lt_of_lt_of_le hlt hb.size, fun i hi => ?_⟩
  rw [World.cell?_of_block (w := w) (w' := w') (a := ⟨bb, oo + i, none⟩) (hb.block bb hlt hbn)]
  exact hcell i hi
/-- A reader's box: what is left, and its error. -/
def rdRow (v : Value) (e : Nat) : Array Value := #[v, .int .i64 (e : Int)]
theorem rdRow_no (a : Option Addr) (n cap e : Nat) (k : Nat) (x : Int) : (rdRow (.slice a n cap) e)[k]? ≠ some (.int .u8 x) := by
  unfold rdRow
  match k with
  | 0 => simp
  | 1 => simp
  | k + 2 => simp
theorem rdTake_small (b : List (BitVec 8)) (e n : Nat) : (rdTake b e n).x.length ≤ n ∧ (rdTake b e n).x.length ≤ b.length ∧ (rdTake b e n).b.length ≤ b.length ∧ ((rdTake b e n).e = e ∨ (rdTake b e n).e = 4) := by
  unfold rdTake
  split
  · simp
  · split
    · simp
    · simp; omega
theorem rdTake_e (b : List (BitVec 8)) (e n : Nat) (he : e ≤ 100) : (rdTake b e n).e ≤ 100 := by
  rcases (rdTake_small b e n).2.2.2 with h | h <;> omega
/-- An account of the program's reader: in this world, at this block, these bytes are left and this is its error. -/
abbrev RdAcc := World → Nat → List (BitVec 8) → Nat → Prop
/-- How a method of the program's reader ends. -/
structure PEnd (R : RdAcc) (w : World) (br : Nat) (b : List (BitVec 8)) (e : Nat) (w' : World) : Prop where
  r : R w' br b e
  o : But br w w'
  k : ∀ B x, Below B x w → B ≤ br → Below B x w'
abbrev rp (br : Nat) : Value := .pointer (some ⟨br, 0, none⟩)
theorem PEnd.trans {R : RdAcc} {w w1 w2 : World} {br : Nat} {b1 b2 : List (BitVec 8)} {e1 e2 : Nat} (h : PEnd R w br b1 e1 w1) (k : PEnd R w1 br b2 e2 w2) : PEnd R w br b2 e2 w2 :=
  ⟨k.r, But.same h.o k.o, fun B x hB hle => k.k B x (h.k B x hB hle) hle⟩
end Sha
end Go.Proofs.Ytknaimpnkflfnaa
