/- Plain mathematics: the primes below q as the document collects them, the first 64 of them, and that their cube roots' fractions are the listed constants. -/
import Derived.Test.YtngegegomkclbaaDoorShaRef2
namespace Go.Proofs.YtngegegomkclbaaDoor
namespace Sha

/-- The primes below q, as they are collected: each number that no earlier one divides. -/
def pr : Nat → List Nat
  | 0 => []
  | q + 1 => if 2 ≤ q ∧ (pr q).all (fun d => q % d != 0) then pr q ++ [q] else pr q
theorem pr_step (q : Nat) : pr (q + 1) = pr q ∨ pr (q + 1) = pr q ++ [q] := by
  rw [pr]; split
  · exact Or.inr rfl
  · exact Or.inl rfl
theorem pr_mono (q : Nat) : ∀ k, ∃ l, pr (q + k) = pr q ++ l
  | 0 => ⟨[], by simp⟩
  | k + 1 => by
    obtain ⟨l, h⟩ := pr_mono q k
    rcases pr_step (q + k) with e | e
    · exact ⟨l, by rw [← Nat.add_assoc, e, h]⟩
    · exact ⟨l ++ [q + k], by rw [← Nat.add_assoc, e, h, List.append_assoc]⟩
theorem pr_312 : (pr 312).length = 64 := by decide +kernel
/-- Where fewer than 64 are there, q is below 312. -/
theorem pr_lt (q : Nat) (h : (pr q).length < 64) : q < 312 := by
  rcases Nat.lt_or_ge q 312 with h' | h'
  · exact h'
  · obtain ⟨l, e⟩ := pr_mono 312 (q - 312)
    rw [show 312 + (q - 312) = q by omega] at e
    have := pr_312
    rw [e, List.length_append] at h
    omega
theorem pr_pos : ∀ (q d : Nat), d ∈ pr q → 2 ≤ d
  | 0, _, h => by simp [pr] at h
  | q + 1, d, h => by
    rw [pr] at h
    split at h
    · rename_i hq
      rcases List.mem_append.1 h with h | h
      · exact pr_pos q d h
      · simp at h; omega
    · exact pr_pos q d h
/-- The first n of them stand alike in every list that is long enough. -/
theorem pr_at (q t : Nat) (hq : q ≤ 312) (ht : t < (pr q).length) : (pr q).getD t 0 = (pr 312).getD t 0 := by
  obtain ⟨l, e⟩ := pr_mono q (312 - q)
  rw [show q + (312 - q) = 312 by omega] at e
  rw [e]
  simp [List.getD_eq_getElem?_getD, List.getElem?_append, ht]
theorem cubes : (List.range 64).all (fun t => cubeGo (((pr 312).getD t 0 : Nat) : Int) 35 0 % (4294967296 : Int) == V (Kl.getD t 0)) = true := by decide +kernel
theorem cube_at (t : Nat) (h : t < 64) : cubeGo (((pr 312).getD t 0 : Nat) : Int) 35 0 % (4294967296 : Int) = V (Kl.getD t 0) := by
  have := List.all_eq_true.1 cubes t (List.mem_range.2 h)
  simpa using this
end Sha
end Go.Proofs.YtngegegomkclbaaDoor
