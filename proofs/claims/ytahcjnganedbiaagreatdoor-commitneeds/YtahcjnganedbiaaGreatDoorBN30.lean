/- My own texts, merged. -/
import Derived.Test.YtahcjnganedbiaaGreatDoorBN26
import Derived.Test.YtahcjnganedbiaaGreatDoorBN09
import Derived.Test.YtahcjnganedbiaaGreatDoorBN06
import Derived.Test.YtahcjnganedbiaaGreatDoorBN15
import Derived.Test.YtahcjnganedbiaaGreatDoorBN20
import Derived.RangeFuncNested
import Derived.RangeFuncBound
import Derived.RangeFuncCalls
import Derived.RangeFuncLeaves
import Derived.Shelf.Abstract
import Derived.Shelf.RegionOpen
import Derived.WalkKit
import Derived.OwnWalkIn
import Derived.TacticsInMore
import Derived.LoopNIn
import Derived.LoopIn
import Derived.Test.YtahcjnganedbiaaGreatDoorBN00
namespace Go.Proofs.YtahcjnganedbiaaGreatDoor
namespace Sha
open Go.RowKit Mem
structure Step6 where
 k : BitVec 8
 n : Int
 a : Int
 x : BitVec 8
 q : Nat
deriving Inhabited
def stepC6 (s : Step6) : Array Value := #[.int .u8 (B8 s.k), .int .i64 s.n, .int .i64 s.a, .int .u8 (B8 s.x), .int .u64 (s.q : Int)]
def SlS6 (w : World) (v : Value) (l : List Step6) : Prop :=
 ∃ a cap, v = .slice a l.length cap ∧ l.length ≤ cap ∧ (l ≠ [] → ∃ bb oo, a = some ⟨bb, oo, none⟩ ∧ bb < w.heap.size ∧ ∀ i, i < l.length → ∀ j, j < 5 → w.cell? ⟨bb, oo + (5 * i + j), none⟩ = (stepC6 (l.getD i default))[j]?)
theorem SlS6.below {w wr : World} {v : Value} {l : List Step6} (h : SlS6 w v l) (hb : Below w.heap.size w wr) : SlS6 wr v l := by
 obtain ⟨a, cap, e, hc, hr⟩ := h
 refine ⟨a, cap, e, hc, fun hne => ?_⟩
 obtain ⟨bb, oo, ea, hlt, hcell⟩ := hr hne
 exact ⟨bb, oo, ea, Nat.lt_of_lt_of_le hlt hb.size, fun i hi j hj => by rw [hb.cell (p := ⟨bb, oo + (5 * i + j), none⟩) hlt]; exact hcell i hi j hj⟩
theorem SlS6.take {w : World} {a : Option Addr} {n cap : Nat} {l : List Step6} (h : SlS6 w (.slice a n cap) l) (m : Nat) (hm : m ≤ l.length) : SlS6 w (.slice a m cap) (l.take m) := by
 obtain ⟨a', cap', e, hc, hr⟩ := h
 injection e with e1 _ e3
 subst e1; subst e3
 have hl : (l.take m).length = m := by rw [List.length_take]; omega
 refine ⟨a, cap, by rw [hl], by rw [hl]; omega, fun hne => ?_⟩
 obtain ⟨bb, oo, ea, hlt, hcell⟩ := hr (fun h0 => hne (by rw [h0]; simp))
 refine ⟨bb, oo, ea, hlt, fun i hi j hj => ?_⟩
 rw [hl] at hi
 rw [hcell i (by omega) j hj]
 simp [List.getD_eq_getElem?_getD, hi]
structure Apart (R : StAcc) (b : Nat) (s : St6) (v : Value) (l : List (BitVec 8)) (w wr : World) : Prop where
 h : ∃ F G, R F b wr s ∧ (∀ k, F k → w.heap.size ≤ k ∧ ¬ G k) ∧ SlB G wr v l ∧ ∀ k, G k → k < wr.heap.size
 b : Below w.heap.size w wr
theorem Apart.sl {R : StAcc} {b : Nat} {s : St6} {v : Value} {l : List (BitVec 8)} {w wr : World} (h : Apart R b s v l w wr) : Sl wr v l := by
 obtain ⟨_, _, _, _, h, _⟩ := h.h; exact h.sl
end Sha
end Go.Proofs.YtahcjnganedbiaaGreatDoor
namespace Go.Proofs.YtahcjnganedbiaaGreatDoor
namespace Sha
open Go.RowKit Mem
def pBl (bb n : Nat) : Value := .slice (some ⟨bb, 0, none⟩) (n * 256) (n * 256)
def pRow (bb n : Nat) (vw vs vt : Value) : Array Value := #[pBl bb n, vw, vs, vt]
structure PM (G D : Foot) (br bb : Nat) (w : World) (s : St6) (vw vs vt : Value) : Prop where
 fb : G bb
 ne : bb ≠ br
 by8 : At w bb (u8s s.b).toArray 5
 len : s.b.length = s.n * 256
 ow : ∀ k, vw.ownBlock = some k → G k ∧ k ≠ br
 os : ∀ k, vs.ownBlock = some k → G k ∧ k ≠ br
 ot : ∀ k, vt.ownBlock = some k → G k ∧ k ≠ br
 dF : ∀ k, D k → G k ∧ k < w.heap.size ∧ k ≠ br ∧ k ≠ bb ∧ vw.ownBlock ≠ some k ∧ vs.ownBlock ≠ some k ∧ vt.ownBlock ≠ some k
 hw : ∃ ws : List (Nat × Value), Each2 (fun p q => p.1 = q.1 ∧ SlB D w p.2 q.2) ws s.w ∧ w.ownsRow 0 156 2 vw s.w.length (putC ws)
 hs : ∃ hs : List Value, Each2 (fun p q => SlB D w p q) hs s.sh ∧ w.ownsRow 0 36 1 vs s.sh.length hs
 ht : w.ownsRow 0 3 1 vt s.t.length (i64s s.t)
section
variable {F G D : Foot} {br bb : Nat} {w w' w1 : World} {s : St6} {vw vs vt vw' vs' vt' : Value}
theorem PM.keep (h : PM G D br bb w s vw vs vt) (hs : w.heap.size ≤ w'.heap.size) (hk : ∀ k, G k → k ≠ br → k < w.heap.size → w'.heap[k]? = w.heap[k]?) : PM G D br bb w' s vw vs vt := by
 have hD : ∀ k, D k → k < w.heap.size → w'.heap[k]? = w.heap[k]? := fun k hd hlt => hk k (h.dF k hd).1 (h.dF k hd).2.2.1 hlt
 obtain ⟨ws, h1, h2⟩ := h.hw
 obtain ⟨hs', h3, h4⟩ := h.hs
 refine ⟨h.fb, h.ne, ?_, h.len, h.ow, h.os, h.ot, fun k hd => ⟨(h.dF k hd).1, Nat.lt_of_lt_of_le (h.dF k hd).2.1 hs, (h.dF k hd).2.2⟩, ⟨ws, h1.mono fun _ _ h => ⟨h.1, h.2.keep hs hD⟩, ownsRow_keep h2 fun g hg => hk g (h.ow g hg).1 (h.ow g hg).2 (World.ownsRow.lt h2 g hg).2⟩, ⟨hs', h3.mono fun _ _ h => h.keep hs hD, ownsRow_keep h4 fun g hg => hk g (h.os g hg).1 (h.os g hg).2 (World.ownsRow.lt h4 g hg).2⟩, ownsRow_keep h.ht fun g hg => hk g (h.ot g hg).1 (h.ot g hg).2 (World.ownsRow.lt h.ht g hg).2⟩
 have := h.by8.lt
 have h8 := h.by8
 unfold At at *
 rw [hk bb h.fb h.ne this]; exact h8
theorem PM.mono {H : Foot} (h : PM G D br bb w s vw vs vt) (hs : ∀ k, G k → k < w.heap.size → H k) : PM H D br bb w s vw vs vt := by
 obtain ⟨ws, h1, h2⟩ := h.hw
 obtain ⟨hs', h3, h4⟩ := h.hs
 exact ⟨hs _ h.fb h.by8.lt, h.ne, h.by8, h.len, fun k hk => ⟨hs k (h.ow k hk).1 (World.ownsRow.lt h2 k hk).2, (h.ow k hk).2⟩, fun k hk => ⟨hs k (h.os k hk).1 (World.ownsRow.lt h4 k hk).2, (h.os k hk).2⟩,
  fun k hk => ⟨hs k (h.ot k hk).1 (World.ownsRow.lt h.ht k hk).2, (h.ot k hk).2⟩, fun k hk => ⟨hs k (h.dF k hk).1 (h.dF k hk).2.1, (h.dF k hk).2⟩, ⟨ws, h1, h2⟩, ⟨hs', h3, h4⟩, h.ht⟩
structure PV (F D : Foot) (br bb : Nat) (w : World) (s : St6) (vw vs vt : Value) : Prop where
 box : F br
 lt : ∀ k, F k → k < w.heap.size
 row : At w br (pRow bb s.n vw vs vt) 152
 m : PM F D br bb w s vw vs vt
def PSt (F : Foot) (br : Nat) (w : World) (s : St6) : Prop := ∃ D bb vw vs vt, PV F D br bb w s vw vs vt
theorem PV.blt (h : PV F D br bb w s vw vs vt) : br < w.heap.size := h.lt br h.box
theorem PV.keep (h : PV F D br bb w s vw vs vt) (hs : w.heap.size ≤ w'.heap.size) (hk : ∀ k, F k → k < w.heap.size → w'.heap[k]? = w.heap[k]?) : PV F D br bb w' s vw vs vt := by
 refine ⟨h.box, fun k hF => Nat.lt_of_lt_of_le (h.lt k hF) hs, ?_, h.m.keep hs fun k hF _ hlt => hk k hF hlt⟩
 have h8 := h.row
 unfold At at *
 rw [hk br h.box h.blt]; exact h8
theorem PV.below (h : PV F D br bb w s vw vs vt) (hb : Below w.heap.size w w') : PV F D br bb w' s vw vs vt := h.keep hb.size fun k _ hlt => hb.block k hlt
theorem PV.ps (h : PV F D br bb w s vw vs vt) : PSt F br w s := ⟨D, bb, vw, vs, vt, h⟩
theorem pm_bytes {b : List (BitVec 8)} (h : PM G D br bb w s vw vs vt) (hl : b.length = s.n * 256) (hA : At w' bb (u8s b).toArray 5) (hs : w.heap.size ≤ w'.heap.size) (ho : ∀ k, k < w.heap.size → k ≠ bb → w'.heap[k]? = w.heap[k]?) : PM G D br bb w' { s with b := b } vw vs vt := by
 have hD : ∀ k, D k → k < w.heap.size → w'.heap[k]? = w.heap[k]? := fun k hd hlt => ho k hlt (h.dF k hd).2.2.2.1
 obtain ⟨ws, h1, h2⟩ := h.hw
 obtain ⟨hs', h3, h4⟩ := h.hs
 exact ⟨h.fb, h.ne, hA, hl, h.ow, h.os, h.ot, fun k hd => ⟨(h.dF k hd).1, Nat.lt_of_lt_of_le (h.dF k hd).2.1 hs, (h.dF k hd).2.2⟩,
  ⟨ws, h1.mono fun _ _ h => ⟨h.1, h.2.keep hs hD⟩, ownsRow_keep h2 fun g hg => ho g (World.ownsRow.lt h2 g hg).2 fun e => own_ne_at h2 h.by8 (by decide) (e ▸ hg)⟩,
  ⟨hs', h3.mono fun _ _ h => h.keep hs hD, ownsRow_keep h4 fun g hg => ho g (World.ownsRow.lt h4 g hg).2 fun e => own_ne_at h4 h.by8 (by decide) (e ▸ hg)⟩,
  ownsRow_keep h.ht fun g hg => ho g (World.ownsRow.lt h.ht g hg).2 fun e => own_ne_at h.ht h.by8 (by decide) (e ▸ hg)⟩
theorem pv_bytes {b : List (BitVec 8)} (h : PV F D br bb w s vw vs vt) (hl : b.length = s.n * 256) (hA : At w' bb (u8s b).toArray 5) (hs : w.heap.size ≤ w'.heap.size) (ho : ∀ k, k < w.heap.size → k ≠ bb → w'.heap[k]? = w.heap[k]?) : PV F D br bb w' { s with b := b } vw vs vt := by
 refine ⟨h.box, fun k hF => Nat.lt_of_lt_of_le (h.lt k hF) hs, ?_, pm_bytes h.m hl hA hs ho⟩
 have h8 := h.row
 have h7 := h.blt
 unfold At at *
 rw [ho br h7 fun e => h.m.ne e.symm]; exact h8
end
end Sha
end Go.Proofs.YtahcjnganedbiaaGreatDoor
namespace Go.Proofs.YtahcjnganedbiaaGreatDoor
namespace Sha
open Go.RowKit Mem
structure FInv (F D : Foot) (br bb : Nat) (w : World) (s : St6) (vw vs vt : Value) (b : List (BitVec 8)) (wr : World) : Prop where
 v : PV F D br bb wr { s with b := b } vw vs vt
 c : Chg F w wr
theorem FInv.below {F D : Foot} {br bb : Nat} {w wr w' : World} {s : St6} {vw vs vt : Value} {b : List (BitVec 8)} (h : FInv F D br bb w s vw vs vt b wr) (hb : Below wr.heap.size wr w') : FInv F D br bb w s vw vs vt b w' :=
 ⟨h.v.below hb, h.c.trans (F1 := fun _ => False) (Chg.of_below hb) fun _ h => h.elim⟩
theorem FInv.set {F D : Foot} {br bb : Nat} {w wr w' : World} {s : St6} {vw vs vt : Value} {b b' : List (BitVec 8)} (h : FInv F D br bb w s vw vs vt b wr) (hl : b'.length = s.n * 256) (hA : At w' bb (u8s b').toArray 5) (hs : wr.heap.size ≤ w'.heap.size) (ho : ∀ k, k ≠ bb → w'.heap[k]? = wr.heap[k]?)
 (hk : ∀ B a, Below B a wr → B ≤ bb → Below B a w') : FInv F D br bb w s vw vs vt b' w' := by
 have hb0 := hk 0 wr (Below.refl _ _) (Nat.zero_le _)
 refine ⟨pv_bytes (s := { s with b := b }) h.v hl hA hs fun k _ hne => ho k hne, h.c.trans (F1 := fun k => k = bb) ⟨hb0.os, hb0.tape, hb0.output, hs, fun k _ hne => ho k hne⟩ fun k hk => .inl (hk ▸ h.v.m.fb)⟩
end Sha
end Go.Proofs.YtahcjnganedbiaaGreatDoor
namespace Go.Proofs.YtahcjnganedbiaaGreatDoor
namespace Sha
open Go.RowKit Go.Shelf Mem
attribute [local go_sem] Oper.semAt_some
def lastOf (l : List (Nat × List (BitVec 8))) (c : Nat) : Nat × List (BitVec 8) := l.getD (l.length - 1 - c) (0, [])
structure RdI6 (w : World) (n : Nat) (l : List (Nat × List (BitVec 8))) (c : Nat) (W : World) : Prop where
 an : At W w.heap.size #[.int .i64 (n : Int)] 3
 av : At W (w.heap.size + 1) #[.slice none 0 0] 36
 ae : At W (w.heap.size + 1 + 1) #[.int .i64 0] 26
 b : Below w.heap.size w W
 no : ∀ c', c' < c → (lastOf l c').1 ≠ n
structure RdX6 (w : World) (d n : Nat) (l : List (Nat × List (BitVec 8))) (c : Nat) (W : World) : Prop where
 v : ∃ v, At W (w.heap.size + 1) #[v] 36 ∧ SlB (fun k => w.heap.size ≤ k ∧ k ≠ d ∧ k ≠ d + 1) W v (lastOf l c).2
 ae : At W (w.heap.size + 1 + 1) #[.int .i64 0] 26
 b : Below w.heap.size w W
 yes : (lastOf l c).1 = n
 no : ∀ c', c' < c → (lastOf l c').1 ≠ n
theorem at_two {d b : Nat} {X Y : World} {C : Array Value} {t : TypeId} (h : At X b C t) (k : Two d X Y) (h1 : b ≠ d) (h2 : b ≠ d + 1) : At Y b C t := by
 have hl := h.lt
 unfold At at *
 rw [k.same b hl h1 h2]; exact h
theorem RdI6.two {w : World} {n c d : Nat} {l : List (Nat × List (BitVec 8))} {X Y : World} (h : RdI6 w n l c X) (k : Two d X Y) (hd : w.heap.size + 3 ≤ d) : RdI6 w n l c Y :=
 ⟨at_two h.an k (by omega) (by omega), at_two h.av k (by omega) (by omega), at_two h.ae k (by omega) (by omega), h.b.trans (k.below (by omega) h.b.size), h.no⟩
theorem RdX6.two {w : World} {n c d : Nat} {l : List (Nat × List (BitVec 8))} {X Y : World} (h : RdX6 w d n l c X) (k : Two d X Y) (hd : w.heap.size + 3 ≤ d) : RdX6 w d n l c Y := by
 obtain ⟨v, h1, h2⟩ := h.v
 exact ⟨⟨v, at_two h1 k (by omega) (by omega), h2.keep k.size fun j hj hlt => k.same j hlt hj.2.1 hj.2.2⟩, at_two h.ae k (by omega) (by omega), h.b.trans (k.below (by omega) h.b.size), h.yes, h.no⟩
end Sha
end Go.Proofs.YtahcjnganedbiaaGreatDoor
