/- Layer 12: what the program's functions are asked to do (contracts over its Shape value). -/
import Derived.Test.YtbboljmemomcnaaShpRef2
import Derived.Test.YtbboljmemomcnaaShpRef3
import Derived.Test.YtbboljmemomcnaaShpRef4
import Derived.Test.YtbboljmemomcnaaShpSame
namespace Go.Proofs.Ytbboljmemomcnaa
namespace Sha
open Go.RowKit Mem
def blksP (p : Nat) : Int := if p = 0 then 0 else 2 + 2 * (itn p : Int)
def lvsP (p : Nat) : Int := if p = 0 then 0 else (topn p : Int) + 1
def lvlP (p : Nat) (z : Int) : Int := if 0 ≤ z ∧ z < (itn p : Int) then (lev p z.toNat : Int) else -1
/-- It returns this value, and leaves what was. -/
def VEnd (v : Value) (w : World) (e : Ending) (w' : World) : Prop := e = .returned v ∧ Below w.heap.size w w'
structure ShP where
  N : Nat
  Z : Array Value
  R : World → Array Value → Nat → Prop
  info : (Try.prog.info? 23).map (·.size) = some N
  zero : ∀ w, (zeroValue 23).run Try.prog w = .ok (.agg Z) w
  zsize : Z.size = N
  size : ∀ w C p, R w C p → C.size = N
  one : ∀ w C p, R w C p → C.all (·.oneCell') = true
  below : ∀ w w' C p, R w C p → Below w.heap.size w w' → R w' C p
  nil : ∀ w, R w Z 0
  good : ∀ (p : Nat) w, 1 ≤ p → p ≤ 216 → Calls Try.prog 7 #[.int .i64 p] w fun e w' => ∃ C, e = .returned (.tuple #[.agg C, .int .i64 0]) ∧ R w' C p ∧ Below w.heap.size w w'
  bad : ∀ (z : Int) w, z < 1 ∨ 216 < z → Calls Try.prog 7 #[.int .i64 z] w fun e w' => e = .returned (.tuple #[.agg Z, .int .i64 1]) ∧ Below w.heap.size w w'
  pages : ∀ w C p, p ≤ 216 → R w C p → Calls Try.prog 9 #[.agg C] w (VEnd (.int .i64 p) w)
  items : ∀ w C p, p ≤ 216 → R w C p → Calls Try.prog 10 #[.agg C] w (VEnd (.int .i64 (itn p : Nat)) w)
  blocks : ∀ w C p, p ≤ 216 → R w C p → Calls Try.prog 11 #[.agg C] w (VEnd (.int .i64 (blksP p)) w)
  levels : ∀ w C p, p ≤ 216 → R w C p → Calls Try.prog 12 #[.agg C] w (VEnd (.int .i64 (lvsP p)) w)
  root : ∀ w C p, p ≤ 216 → R w C p → Calls Try.prog 13 #[.agg C] w (VEnd (.int .i64 ((itn p : Int) - 1)) w)
  level : ∀ w C p z, p ≤ 216 → R w C p → Calls Try.prog 14 #[.agg C, .int .i64 z] w (VEnd (.int .i64 (lvlP p z)) w)
  parent : ∀ w C p z, p ≤ 216 → R w C p → Calls Try.prog 20 #[.agg C, .int .i64 z] w (TEnd (PZ p z) w)
  kids : ∀ w C p z, p ≤ 216 → R w C p → Calls Try.prog 15 #[.agg C, .int .i64 z] w (IEnd w (KZ p z))
  path : ∀ w C p z, p ≤ 216 → R w C p → Calls Try.prog 16 #[.agg C, .int .i64 z] w (IEnd w (WZ p z))
  under : ∀ w C p z, p ≤ 216 → R w C p → Calls Try.prog 17 #[.agg C, .int .i64 z] w (IEnd w (UZ p z p))
  block : ∀ w C p z k, p ≤ 216 → R w C p → Calls Try.prog 18 #[.agg C, .int .i64 z, .int .i64 k] w (VEnd (.int .i64 (BZ p z k)) w)
  item : ∀ w C p b, p ≤ 216 → R w C p → Calls Try.prog 22 #[.agg C, .int .i64 b] w (TEnd (IZ p b) w)
theorem SlI.hd0 {w : World} {v : Value} (h : SlI w v []) : ∃ a c, v = .slice a 0 c := let ⟨a, c, e⟩ := h.hd; ⟨a, c, e⟩
theorem SlI.hdn {w : World} {v : Value} {l : List Int} {n : Nat} (h : SlI w v l) (hn : l.length = n) : ∃ a c, v = .slice a n c := let ⟨a, c, e⟩ := h.hd; ⟨a, c, by rw [e, hn]⟩
theorem OIEnd.I {w w' : World} {L : List Int} {e : Ending} (h : OIEnd w L e w') : IEnd w L e w' := let ⟨v, e, ho, hb⟩ := h; ⟨v, e, ownV_sli ho, hb⟩
end Sha
end Go.Proofs.Ytbboljmemomcnaa
