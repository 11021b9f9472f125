/- Layer 6, DevCrashes: what each block might have, in memory. -/
import Derived.Test.YtkgpcgkikenljaaDevCrM
namespace Go.Proofs.Ytkgpcgkikenljaa
namespace Sha
open Go.RowKit Mem
def vrow (vs : Nat → Value) : Array Value := #[vs 0, vs 1, vs 2, vs 3]
def put4 {α : Type} (f : Nat → α) (n : Nat) (v : α) : Nat → α := fun i => if i = n then v else f i
theorem vrow_set (vs : Nat → Value) (n : Nat) (v : Value) (h : n < 4) : (vrow vs).setIfInBounds n v = vrow (put4 vs n v) := by
  have h4 : n = 0 ∨ n = 1 ∨ n = 2 ∨ n = 3 := by omega
  rcases h4 with rfl | rfl | rfl | rfl <;> rfl
theorem vrow_at (vs : Nat → Value) (n : Nat) (h : n < 4) : (vrow vs)[n]? = some (vs n) := by
  have h4 : n = 0 ∨ n = 1 ∨ n = 2 ∨ n = 3 := by omega
  rcases h4 with rfl | rfl | rfl | rfl <;> rfl
/-- Four own lists of bytes, each in a block of its own. -/
structure Mi (p B : Nat) (vs : Nat → Value) (ms : Nat → List (BitVec 8)) (wr : World) : Prop where
  row : At wr p (vrow vs) 58
  own : ∀ k, k < 4 → OwnB wr B (vs k) (ms k)
  ne : ∀ i j, i < 4 → j < 4 → i ≠ j → ∀ g, (vs i).ownBlock = some g → (vs j).ownBlock ≠ some g
/-- Their blocks. -/
def miE (p : Nat) (vs : Nat → Value) : Foot := fun k => k = p ∨ ∃ i, i < 4 ∧ (vs i).ownBlock = some k
theorem Mi.lt {p B : Nat} {vs : Nat → Value} {ms : Nat → List (BitVec 8)} {wr : World} (h : Mi p B vs ms wr) : ∀ k, miE p vs k → k < wr.heap.size := by
  rintro k (rfl | ⟨i, hi, hk⟩)
  · exact h.row.lt
  · exact ((h.own i hi).lt k hk).2
theorem Mi.kept {p B : Nat} {E : Foot} {vs : Nat → Value} {ms : Nat → List (BitVec 8)} {wr wx : World} (h : Mi p B vs ms wr) (hk : Kept E wr wx) (hE : ∀ k, miE p vs k → E k) : Mi p B vs ms wx :=
  ⟨h.row.kept hk (hE _ (.inl rfl)), fun k hk4 => (h.own k hk4).keep fun g hg => hk.block g (hE _ (.inr ⟨k, hk4, hg⟩)), h.ne⟩
theorem Mi.below {p B : Nat} {vs : Nat → Value} {ms : Nat → List (BitVec 8)} {wr wx : World} (h : Mi p B vs ms wr) (hb : Below wr.heap.size wr wx) : Mi p B vs ms wx :=
  h.kept (E := miE p vs) ⟨hb.size, fun k hk => hb.block k (h.lt k hk)⟩ fun _ h => h
/-- One of them is another one, in a block that it had, or a new one. -/
theorem Mi.set {p B n : Nat} {vs : Nat → Value} {ms : Nat → List (BitVec 8)} {wr wx wy : World} {v : Value} {l : List (BitVec 8)} (h : Mi p B vs ms wr) (hn : n < 4) (hp : p < B) (hv : OwnB wx B v l)
    (hk : ∀ k, k < wr.heap.size → (vs n).ownBlock ≠ some k → wx.heap[k]? = wr.heap[k]?) (hs : ∀ g, v.ownBlock = some g → (vs n).ownBlock = some g ∨ wr.heap.size ≤ g)
    (ha : At wy p ((vrow vs).setIfInBounds n v) 58) (ho : ∀ k, k ≠ p → wy.heap[k]? = wx.heap[k]?) : Mi p B (put4 vs n v) (put4 ms n l) wy := by
  have hneB : ∀ {u : Value} {m : List (BitVec 8)} {W : World}, OwnB W B u m → ∀ g, u.ownBlock = some g → g ≠ p := fun hu g hg e => by have := (hu.lt g hg).1; omega
  refine ⟨by rw [← vrow_set vs n v hn]; exact ha, fun k hk4 => ?_, fun i j hi hj hij g hg => ?_⟩
  · by_cases e : k = n
    · subst e
      simp only [put4, if_true]
      exact hv.keep fun g hg => ho g (hneB hv g hg)
    · simp only [put4, if_neg e]
      exact (h.own k hk4).keep fun g hg => (ho g (hneB (h.own k hk4) g hg)).trans (hk g ((h.own k hk4).lt g hg).2 (h.ne k n hk4 hn e g hg))
  · by_cases e1 : i = n
    · subst e1
      have e2 : ¬ j = i := fun e => hij e.symm
      simp only [put4, if_true] at hg
      simp only [put4, if_neg e2]
      intro hg2
      rcases hs g hg with h3 | h3
      · exact h.ne i j hi hj hij g h3 hg2
      · have := ((h.own j hj).lt g hg2).2; omega
    · simp only [put4, if_neg e1] at hg
      by_cases e2 : j = n
      · subst e2
        simp only [put4, if_true]
        intro hg2
        rcases hs g hg2 with h3 | h3
        · exact h.ne i j hi hj hij g hg h3
        · have := ((h.own i hi).lt g hg).2; omega
      · simp only [put4, if_neg e2]
        exact h.ne i j hi hj hij g hg
end Sha
end Go.Proofs.Ytkgpcgkikenljaa
