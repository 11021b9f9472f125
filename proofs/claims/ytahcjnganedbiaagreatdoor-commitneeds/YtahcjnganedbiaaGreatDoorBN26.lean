/- My own texts, merged. -/
import Derived.Test.YtahcjnganedbiaaGreatDoorBN09
import Derived.Test.YtahcjnganedbiaaGreatDoorBN06
import Derived.Test.YtahcjnganedbiaaGreatDoorBN15
import Derived.Test.YtahcjnganedbiaaGreatDoorBN20
namespace Go.Proofs.YtahcjnganedbiaaGreatDoor
namespace Sha
open Go.RowKit Mem
def readTo (n : Nat) (d : List (BitVec 8)) (l : List (Nat × List (BitVec 8))) : Nat → List (BitVec 8)
 | 0 => d
 | j + 1 => if (l.getD j (0, [])).1 = n then (l.getD j (0, [])).2 else readTo n d l j
def blkOf (b : List (BitVec 8)) (n : Nat) : List (BitVec 8) := (b.drop (n * 256)).take 256
def WfP (n : Nat) (l : List (Nat × List (BitVec 8))) : Prop := ∀ j, j < l.length → (l.getD j (0, [])).1 < n ∧ (l.getD j (0, [])).2.length = 256
structure Ok6 (m : Nat) (s : St6) : Prop where
 n1 : 1 ≤ s.n
 n2 : s.n ≤ 1024
 b : s.b.length = s.n * 256
 wf : WfP s.n s.w
 sh : ∀ k, k < s.sh.length → (s.sh.getD k []).length = s.n * 256
 w : s.w.length ≤ m
 t : s.t.length ≤ m
 s16 : s.sh.length ≤ 16
theorem Ok6.mono {m m' : Nat} {s : St6} (h : Ok6 m s) (hm : m ≤ m') : Ok6 m' s := ⟨h.n1, h.n2, h.b, h.wf, h.sh, Nat.le_trans h.w hm, Nat.le_trans h.t hm, h.s16⟩
def stRead (s : St6) (n : Nat) : List (BitVec 8) := readTo n (blkOf s.b n) s.w s.w.length
abbrev StAcc := Foot → Nat → World → St6 → Prop
end Sha
end Go.Proofs.YtahcjnganedbiaaGreatDoor
